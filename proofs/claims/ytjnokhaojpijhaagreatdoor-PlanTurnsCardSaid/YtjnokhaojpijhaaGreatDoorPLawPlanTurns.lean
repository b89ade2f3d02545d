/- PlanTurns: a right plan (by bytes) with one of its numbers out of its range is none. No condition beside the listed tables, which the card ties to the text. Written by tools/genplanturns.py. -/
import Derived.Test.YtjnokhaojpijhaaGreatDoorPac
import Derived.Deep.Slices
import Derived.Deep.Fields
import Derived.Deep.CondSized
import Derived.JoinedCond
import Derived.SizedLaws
import Derived.Test.YtjnokhaojpijhaaGreatDoorPae
import Derived.Test.YtjnokhaojpijhaaGreatDoorPbl
import Derived.Test.YtjnokhaojpijhaaGreatDoorPPlanTurnsA
import Derived.Test.YtjnokhaojpijhaaGreatDoorPPlanTurnsB
import Derived.Test.YtjnokhaojpijhaaGreatDoorPPlanTurnsC
import Derived.Test.YtjnokhaojpijhaaGreatDoorPPlanTurnsD
namespace Go.Proofs.YtjnokhaojpijhaaGreatDoor
open Go.RowKit Go.WideShapes Go.ChangeShapes Go.ChangeAt Go.Deep

section
variable {H : Type} {enc : TypeId × Value → H} {P : Program} {W W' : World}
theorem sl_of_trod {α : Type} {ce : α → List Value} {Q : α → Prop} {size base : Nat} {spare : Nat → Bool} {held : Bool} {t e : TypeId} {v : Value} {d : DataW H} {ps : List MemPlace} {r : Reach} {b0 : Nat}
    (ht : P.underlying t = some (.slice e)) (hC : P.cellsOf e = size) (hsz : 0 < size) (hce : ∀ p, (ce p).length = size)
    (hel : ∀ n cs x, DataW.trod enc P W base spare held n e cs = some x → ∃ p : α, cs = ce p ∧ Q p) (ok : Value.okWide P W r b0 t v) (h : DataW.Trod enc P W base spare held t v d ps) :
    ∃ l : List α, Sl ce size W v l ∧ (∀ p ∈ l, Q p) ∧ ((d = .nil ∧ l = []) ∨ ∃ el rest, d = .slice el rest ∧ el.length = l.length) := by
  obtain ⟨a0, len0, cap0, rfl⟩ := okWide_slice ht ok
  obtain ⟨fuel, hf⟩ := h
  rcases open_slice ht (by simpa [Value.cells] using hf) with ⟨hcs, hx⟩ | ⟨a, len, cap, m, n, D, Pl, hcs, hb, hl, hm, hmm, hx, hi⟩
  · simp only [Prod.mk.injEq] at hx
    injection hcs with hcs
    rw [hcs]
    exact ⟨[], Sl.nil_, by simp, .inl ⟨hx.1, rfl⟩⟩
  · injection hcs with hcs
    rw [hcs]
    have hlm : len ≤ m := by rw [hmm]; split <;> omega
    simp only [Prod.mk.injEq] at hx
    have hex : ∀ i, i < len → ∃ p : α, Q p ∧ ∀ j u, (ce p)[j]? = some u → W.cell? (a.add (i * size + j)) = some u := fun i hil => by
      obtain ⟨cs', hc, ht'⟩ := hi i (by omega)
      obtain ⟨p, rfl, hq⟩ := hel n cs' _ ht'
      rw [hC] at hc
      obtain ⟨_, hcl, hat⟩ := World.cells?_some hc
      refine ⟨p, hq, fun j u hu => ?_⟩
      have hj : j < size := by have := (List.getElem?_eq_some_iff.1 hu).1; rw [hce] at this; exact this
      rw [← add_add, hat j hj, hu]
    obtain ⟨l, hll, hlq⟩ := list_of _ len hex
    subst hll
    refine ⟨l, ⟨_, cap, rfl, hl, hm, fun h0 => ?_⟩, fun p hp => ?_, .inr ⟨_, _, hx.1, by simp⟩⟩
    · have h00 := (hlq 0 l[0] (List.getElem?_eq_getElem h0)).2 0 ((ce l[0])[0]'(by rw [hce]; exact hsz)) (List.getElem?_eq_getElem _)
      rw [Nat.zero_mul, Nat.add_zero] at h00
      obtain ⟨b, off, spot⟩ := a
      have hsp : spot = none := by
        cases spot with
        | none => rfl
        | some s =>
          exfalso
          simp only [Addr.add, if_true, World.cell?] at h00
          split at h00 <;> simp at h00
      subst hsp
      refine ⟨b, off, rfl, ?_, fun i p hp j u hu => ?_⟩
      · have := World.block_lt_of_cell? W _ h00
        rw [add_none] at this; exact this
      · have := (hlq i p hp).2 j u hu
        rw [add_none] at this
        rw [Nat.add_assoc]; exact this
    · obtain ⟨i, hi⟩ := List.getElem?_of_mem hp
      exact (hlq i p hi).1

end

section
variable {H : Type}
theorem slice_reach {α : Type} {P : Program} {ts : List TypeId} {ds : List (DataW H)} (hsz : (DataW.weightsEach P ts ds).all (· ≤ reachBytes) = true) (j : Nat) {t e : TypeId} {d : DataW H} {l : List α} {b : Nat} (ht : ts[j]? = some t) (hd : ds[j]? = some d) (hu : P.underlying t = some (.slice e)) (hb : P.bytesOf e = b)
    (h : (d = .nil ∧ l = []) ∨ ∃ el rest, d = .slice el rest ∧ el.length = l.length) : l.length * b ≤ 140737488351232 := by
  rcases h with ⟨rfl, rfl⟩ | ⟨el, rest, rfl, he⟩
  · simp
  · have h1 := sized_slice hsz ht hd hu
    rw [hb] at h1
    simp only [reachBytes] at h1
    have h2 : l.length * b ≤ (el.length + rest.length) * b := Nat.mul_le_mul_right b (by omega)
    omega
end
set_option maxRecDepth 100000 in
theorem open_bytes {H : Type} {enc : TypeId × Value → H} {W : World} {base : Nat} {spare : Nat → Bool} {held : Bool} {v : Value} {d : DataW H} {ps : List MemPlace} {r : Reach} {b0 : Nat} (ok : Value.okWide Tryz.prog W r b0 31 v) (h : DataW.Trod enc Tryz.prog W base spare held 31 v d ps) :
    ∃ l : List Int, Bytes W v l ∧ (∀ p ∈ l, 0 ≤ p ∧ p ≤ 255) ∧ ((d = .nil ∧ l = []) ∨ ∃ el rest, d = .slice el rest ∧ el.length = l.length) :=
  sl_of_trod Tryz.underlying31 (by kernel_rfl) (by decide) (fun _ => rfl) (fun n cs x hx => by
    obtain ⟨a, ha, _, wa⟩ := DataW.trod_int Tryz.underlying5 hx
    exact ⟨a, ha, by simpa [Lit.wf, IntKind.min, IntKind.max, IntKind.signed, IntKind.bits] using wa⟩) ok h
end Go.Proofs.YtjnokhaojpijhaaGreatDoor
namespace Go.Proofs.YtjnokhaojpijhaaGreatDoor.lawPlanTurns
open Go.RowKit Go.WideShapes Go.ChangeShapes Go.ChangeAt Go.Shelf Go.Proofs Go.Proofs.YtjnokhaojpijhaaGreatDoor
theorem walk (v : Value) (l : List Int) (k : Int) (w : World) (hl : Bytes w v l) (hr : ∀ b ∈ l, 0 ≤ b ∧ b ≤ 255) (hk : 0 ≤ k ∧ k ≤ 255) (hE : EnvP w) :
    Calls Tryz.prog 7 #[v, .int .u8 k] w fun x w' => x = .returned (.bool true) ∧ Below w.heap.size w w' := by
  have ht : k.tmod 16 = k % 16 := Int.tmod_eq_emod_of_nonneg hk.1
  rcases (show k % 16 = 0 ∨ k % 16 = 1 ∨ k % 16 = 2 ∨ k % 16 = 3 ∨ k % 16 = 4 ∨ k % 16 = 5 ∨ k % 16 = 6 ∨ k % 16 = 7 ∨ k % 16 = 8 ∨ k % 16 = 9 ∨ k % 16 = 10 ∨ k % 16 = 11 ∨ k % 16 = 12 ∨ k % 16 = 13 ∨ k % 16 = 14 ∨ k % 16 = 15 by omega) with h | h | h | h | h | h | h | h | h | h | h | h | h | h | h | h
  · exact turns_0 v l k w hl hr (ht.trans h) hE
  · exact turns_1 v l k w hl hr (ht.trans h) hE
  · exact turns_2 v l k w hl hr (ht.trans h) hE
  · exact turns_3 v l k w hl hr (ht.trans h) hE
  · exact turns_4 v l k w hl hr (ht.trans h) hE
  · exact turns_5 v l k w hl hr (ht.trans h) hE
  · exact turns_6 v l k w hl hr (ht.trans h) hE
  · exact turns_7 v l k w hl hr (ht.trans h) hE
  · exact turns_8 v l k w hl hr (ht.trans h) hE
  · exact turns_9 v l k w hl hr (ht.trans h) hE
  · exact turns_10 v l k w hl hr (ht.trans h) hE
  · exact turns_11 v l k w hl hr (ht.trans h) hE
  · exact turns_12 v l k w hl hr (ht.trans h) hE
  · exact turns_13 v l k w hl hr (ht.trans h) hE
  · exact turns_14 v l k w hl hr (ht.trans h) hE
  · exact turns_15 v l k w hl hr (ht.trans h) hE
set_option maxRecDepth 100000 in
theorem lifted (os : Os) (started : os.Started) (H : Type) (enc : TypeId × Value → H) :
    ReturnsInHanded {} Tryz.checked os 7 .any (fun w args => (Rows.planTurnsSpec.pre enc Tryz.prog Tryz.f7 Rows.planTurnsRow.domain false w args ∧ laidMetH Tryz.prog Rows.planTurnsRow.laid w) ∧ sizedMet enc Tryz.prog Tryz.f7 (OpenSpec.ofChange Rows.planTurnsSpec) false w args) (Rows.planTurnsSpec.post enc Tryz.prog Tryz.f7 false true false false) := by
  refine handed_and_shaped (C := Tryz.checked) (X := fun w _ => laidMetH Tryz.prog Rows.planTurnsRow.laid w) (fun _ _ _ hh h => h.of_heap hh) ownL started (by kernel_rfl) Tryz.func7
    (ChangeSpec.witness_shaped (enc := enc) (C := Tryz.checked) (os := os) (X := fun w _ => laidMetH Tryz.prog Rows.planTurnsRow.laid w) false (World.laidAll Tryz.prog os Rows.planTurnsRow.laid) #[.slice none 0 0, .int .u8 0] 8 (World.laidAll_os _ _ _)
      (World.shaped_of_ZipB (by kernel_rfl) (by kernel_rfl)) (by kernel_rfl) (by kernel_rfl) (by kernel_rfl)
      (by rw [MakeChecks.laidMetH_plain _ _ _ (by kernel_rfl)]; exact laidMet_laidAll _ (by kernel_rfl) (by kernel_rfl))) ?_
  intro W base args ds gs before hval0 hW hsz0 hL hsh
  have hval : ∀ (j : Nat) t v, Tryz.f7.params[j]? = some t → args[j]? = some v → Value.okWide Tryz.prog W .any base t v := hval0
  have hW' := hW
  obtain ⟨p, q, hA0, hV, rfl, hfz, hnd⟩ := hW
  have hA : DataW.TrodAll enc Tryz.prog W 0 (fun _ => true) true Tryz.f7.params.toList args.toList ds p := hA0
  rw [Tryz.params7] at hA hval
  obtain ⟨v0, vs0, d0, ds0, p0, q0, hargs, rfl, rfl, h0, r0⟩ := trodAll_cons hA
  obtain ⟨v1, vs1, d1, ds1, p1, q1, rfl, rfl, rfl, h1, r1⟩ := trodAll_cons r0
  obtain ⟨rfl, rfl, rfl⟩ := trodAll_nil r1
  obtain rfl : args = #[v0, v1] := by cases args; simp_all
  obtain ⟨rfl, rfl⟩ := trodVars_none hV
  obtain ⟨l0, hl0, hq0, hd0⟩ := open_bytes (hval 0 31 v0 rfl rfl) h0
  obtain ⟨a1, rfl, rfl, rfl, w1⟩ := open_int Tryz.underlying5 (hval 1 5 v1 rfl rfl) h1
  have hx1 : 0 ≤ a1 ∧ a1 ≤ 255 := by simpa [Lit.wf, IntKind.min, IntKind.max, IntKind.signed, IntKind.bits] using w1
  have hsz : (DataW.weightsEach Tryz.prog [31, 5] ([d0, .lit (.int .u8 a1)] : List (DataW H))).all (· ≤ reachBytes) = true := hsz0
  have e0 : l0.length * 1 ≤ 140737488351232 := slice_reach hsz 0 rfl rfl Tryz.underlying31 (by kernel_rfl) hd0
  have hE := env_of_laidP hL hsh
  refine (walk v0 l0 a1 W hl0 hq0 hx1 hE).mono fun e W' ⟨he, hg⟩ => ?_
  subst he
  exact ⟨_, rfl, law_post laidOutL (by kernel_rfl) rfl Tryz.underlying4 rfl ⟨rfl, rfl, rfl⟩ hW' hg⟩
theorem row_holds : Rows.PlanTurnsSaid :=
  OpenClaim.holds_of_wide 7 Tryz.f7 rfl rfl rfl rfl rfl rfl rfl ⟨rfl, rfl, rfl, rfl, rfl⟩ rfl rfl rfl rfl rfl (by kernel_rfl) Tryz.func7 (by kernel_rfl)
    (of_decide_eq_true (by kernel_rfl)) (by unfold Func.isWrapper; first | (rw [if_pos (by decide +kernel)]; kernel_rfl) | (rw [if_neg (by decide +kernel)]; exact ⟨rfl, rfl⟩))
    (fun os started H enc _ => lifted os started H enc)
/-- THE STATEMENT -/
theorem proved : Rows.PlanTurnsCardSaid :=
  Claim7.holds_tied_plain_at .later [] Rows.planTurnsCard.laidKinds true Rows.planTurnsCard.stood.harness Rows.planTurnsCard.stood.looks
    row_holds (fun _ h => by cases h) (by kernel_rfl) (fun _ h => by cases h) planTurns_row_tie rfl ⟨rfl, rfl⟩ (by kernel_rfl) rfl
    (fun f fn hf hfn => by
      obtain rfl : f = 7 := Option.some.inj ((show Tryz.prog.funcNamed Rows.planTurnsRow.func = some 7 by kernel_rfl).symm.trans hf) |>.symm
      obtain rfl : fn = Tryz.f7 := (Option.some.inj (Tryz.func7.symm.trans hfn)).symm
      exact ⟨by kernel_rfl, fun j t ht => by
        rw [Tryz.params7] at ht
        have hm : t ∈ [31, 5] := by simpa using Array.mem_of_getElem? ht
        have hall : ([31, 5].all fun u => !Tryz.prog.wantsStandIn u) = true := by kernel_rfl
        exact (show Tryz.prog.wantsStandIn t = false by simpa using List.all_eq_true.1 hall t hm)⟩)
    (by kernel_rfl)
end Go.Proofs.YtjnokhaojpijhaaGreatDoor.lawPlanTurns
