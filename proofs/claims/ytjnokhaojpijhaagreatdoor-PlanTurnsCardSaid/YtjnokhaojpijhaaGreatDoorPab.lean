import Derived.OrdersHeld
import Derived.Deep.RegionHeld
import Derived.WalkKit
import Derived.ProofKit
import Derived.RangeFuncBox
import Derived.RangeFuncNested
import Derived.RangeFuncBound
import Derived.RangeFuncCalls
import Derived.RangeFuncLeaves
import Derived.Test.YtjnokhaojpijhaaGreatDoorPaa
import Derived.Test.YtjnokhaojpijhaaGreatDoorPaa
/- A region that draws its order, and stores into what it has loaded: the loads are taken first while no store has come up (the stores wait for them). -/
namespace Go.Proofs.YtjnokhaojpijhaaGreatDoor
section
variable {P : Program} {ops : Array Oper} {Q : Exit → Act → World → Prop} {md : Region.Mode} {S : World → Prop} {br : List Nat}
/-- none of these has come up -/
def unl (br : List Nat) (l : Array Bool) : Bool := br.all fun b => l.getD b true == false
theorem unl_set {l : Array Bool} {i : Nat} (hi : i ∉ br) : unl br (l.setIfInBounds i true) = unl br l := by
  unfold unl
  rw [Bool.eq_iff_iff, List.all_eq_true, List.all_eq_true]
  constructor
  · intro h b hb
    have := h b hb
    rwa [getD_set_ne true (show i ≠ b from fun e => hi (by rw [e]; exact hb))] at this
  · intro h b hb
    rw [getD_set_ne true (show i ≠ b from fun e => hi (by rw [e]; exact hb))]
    exact h b hb
/-- whatever order is picked from here on; S holds behind every operation till one of br has come up -/
def wpAnyB (P : Program) (md : Region.Mode) (ops : Array Oper) (Q : Exit → Act → World → Prop) (S : World → Prop) (br : List Nat) : Nat → Array Bool → Act → World → Prop
  | 0, l, a, w => Region.ready md ops l = [] ∧ Q .normal a w
  | fuel + 1, l, a, w =>
    (Region.ready md ops l = [] → Q .normal a w) ∧
    ∀ i ∈ Region.ready md ops l, wpOp P ops Q i (fun a' w' => (unl br (l.setIfInBounds i true) = true → S w') ∧ wpAnyB P md ops Q S br fuel (l.setIfInBounds i true) a' w') a w
theorem wpAny_of_B : ∀ (fuel : Nat) (l : Array Bool) (a : Act) (w : World), wpAnyB P md ops Q S br fuel l a w → wpAny P md ops Q fuel l a w
  | 0, _, _, _, h => h
  | fuel + 1, _, _, _, h => ⟨h.1, fun i hi => wpOp_mono (fun a' w' h' => wpAny_of_B fuel _ a' w' h'.2) (h.2 i hi)⟩
/-- what has come up had all come up that it waits for -/
def ClosedL (md : Region.Mode) (ops : Array Oper) (l : Array Bool) : Prop := ∀ k o, ops[k]? = some o → l.getD k false = true → ∀ e ∈ o.after, Region.binds md e = true → l.getD e.on false = true
def closedB (md : Region.Mode) (ops : Array Oper) (l : Array Bool) : Bool := (List.range ops.size).all fun k => !(l.getD k false) || (match ops[k]? with | some o => o.after.all (fun e => !(Region.binds md e) || l.getD e.on false) | none => true)
theorem closedB_spec {l : Array Bool} (h : closedB md ops l = true) : ClosedL md ops l := by
  intro k o ho hk e he hb
  have hlt : k < ops.size := (Array.getElem?_eq_some_iff.1 ho).1
  have := List.all_eq_true.1 h k (List.mem_range.2 hlt)
  rw [ho, hk, Bool.not_true, Bool.false_or] at this
  have := Array.all_eq_true'.1 this e he
  rw [hb, Bool.not_true, Bool.false_or] at this
  exact this
theorem ClosedL.set {l : Array Bool} {j : Nat} (h : ClosedL md ops l) (hj : j ∈ Region.ready md ops l) : ClosedL md ops (l.setIfInBounds j true) := by
  intro k o ho hk e he hb
  refine getD_set_true ?_
  by_cases hjk : j = k
  · subst hjk
    obtain ⟨_, oj, hoj, hall⟩ := mem_ready.1 hj
    rw [hoj] at ho
    cases ho
    exact hall e he hb
  · rw [getD_set_ne false hjk] at hk
    exact h k o ho hk e he hb
/-- does b wait for i, be it by others? -/
def depB (md : Region.Mode) (ops : Array Oper) (i : Nat) : Nat → Nat → Bool
  | 0, _ => false
  | f + 1, b => match ops[b]? with | some ob => ob.after.any (fun e => Region.binds md e && (e.on == i || depB md ops i f e.on)) | none => false
theorem dep_spec {l : Array Bool} (hc : ClosedL md ops l) {i : Nat} : ∀ (f b : Nat) (ob : Oper), ops[b]? = some ob → (∀ e ∈ ob.after, Region.binds md e = true → l.getD e.on false = true) → depB md ops i f b = true → l.getD i false = true
  | 0, _, _, _, _, h => by cases h
  | f + 1, b, ob, ho, hall, h => by
    rw [depB, ho] at h
    simp only [Array.any_eq_true', Bool.and_eq_true, Bool.or_eq_true, beq_iff_eq] at h
    obtain ⟨e, he, hb, h⟩ := h
    have hl := hall e he hb
    rcases h with h | h
    · rwa [h] at hl
    · cases ho2 : ops[e.on]? with
      | none =>
        cases f with
        | zero => cases h
        | succ f => rw [depB, ho2] at h; cases h
      | some o2 => exact dep_spec hc f e.on o2 ho2 (hc e.on o2 ho2 hl) h
def waitB (md : Region.Mode) (ops : Array Oper) (br : List Nat) (i : Nat) : Bool := br.all fun b => depB md ops i ops.size b
/-- an operation may be taken first: T is what it asks of the world; where T asks something, br's operations wait for it -/
theorem wpAnyB_first {T : World → Prop} {i : Nat} {oi : Oper} {v : Value} (hi : ops[i]? = some oi) (hib : i ∉ br) (hsel : ∀ (j : Nat) (o : Oper) cs b, ops[j]? = some o → o.op ≠ .select cs b)
    (hQ : ∀ c a w, Q (.panic c) (a.put oi.dst v) w → Q (.panic c) a w) (hT : (∀ w, T w) ∨ ((∀ w, S w → T w) ∧ waitB md ops br i = true)) :
    ∀ (fuel : Nat) (l : Array Bool) (a : Act) (w : World),
      (∀ j oj, ops[j]? = some oj → j ≠ i → l.getD j true = false → (∀ e ∈ oj.after, Region.binds md e = true → e.on ≠ i) → oi.apart ops oj = true) →
      i ∈ Region.ready md ops l → YieldsIf P ops T oi v a → ((∀ w, T w) ∨ (unl br l = true ∧ ClosedL md ops l)) → (unl br l = true → S w) → T w →
      wpAnyB P md ops Q S br fuel (l.setIfInBounds i true) (a.put oi.dst v) w → wpAnyB P md ops Q S br (fuel + 1) l a w := by
  intro fuel
  induction fuel with
  | zero =>
    intro l a w _ hr hy hu hS hw H
    refine ⟨fun h => (by rw [h] at hr; cases hr), fun j hj => ?_⟩
    by_cases hji : j = i
    · subst hji; exact hy.wpOp hi hw ⟨fun h => hS (by rwa [unl_set hib] at h), H⟩
    · have := ready_mono hj hji
      rw [H.1] at this
      cases this
  | succ fuel ih =>
    intro l a w hfree hr hy hu hS hw H
    refine ⟨fun h => (by rw [h] at hr; cases hr), fun j hj => ?_⟩
    by_cases hji : j = i
    · subst hji; exact hy.wpOp hi hw ⟨fun h => hS (by rwa [unl_set hib] at h), H⟩
    · have h1 := H.2 j (ready_mono hj hji)
      obtain ⟨hjun, oj, hoj, hall⟩ := mem_ready.1 hj
      have hnot : ∀ e ∈ oj.after, Region.binds md e = true → e.on ≠ i := fun e he hb heq => by
        have h1 := hall e he hb
        have h0 := (mem_ready.1 hr).1
        rw [heq] at h1
        rcases Nat.lt_or_ge i l.size with h' | h'
        · simp [h'] at h0 h1; rw [h0] at h1; cases h1
        · simp [Array.getElem?_eq_none h'] at h1
      have h2 := wpOp_putIf hoj (hfree j oj hoj hji hjun hnot) (fun cs b => hsel i oi cs b hi) (fun cs b => hsel j oj cs b hoj) hQ hy h1
      have hfree' : ∀ k ok, ops[k]? = some ok → k ≠ i → (l.setIfInBounds j true).getD k true = false →
          (∀ e ∈ ok.after, Region.binds md e = true → e.on ≠ i) → oi.apart ops ok = true := fun k ok hk hki hun hno => by
        refine hfree k ok hk hki ?_ hno
        by_cases hjk : j = k
        · subst hjk; exact hjun
        · rw [getD_set_ne true hjk] at hun; exact hun
      have hu' : (∀ w, T w) ∨ (unl br (l.setIfInBounds j true) = true ∧ ClosedL md ops (l.setIfInBounds j true)) := by
        rcases hT with hT | ⟨_, hT⟩
        · exact .inl hT
        · rcases hu with hu | ⟨hu, hc⟩
          · exact .inl hu
          · refine .inr ⟨?_, hc.set hj⟩
            rw [unl_set]
            · exact hu
            · intro hjb
              have h1 := dep_spec hc _ j oj hoj hall (List.all_eq_true.1 hT j hjb)
              have h0 := (mem_ready.1 hr).1
              rcases Nat.lt_or_ge i l.size with h' | h'
              · simp [h'] at h0 h1; rw [h0] at h1; cases h1
              · simp [Array.getElem?_eq_none h'] at h1
      refine wpOp_mono (fun a' w' h3 => ?_) h2
      have hs' : unl br (l.setIfInBounds j true) = true → S w' := fun h => h3.2.1 (by
        rw [Array.setIfInBounds_comm _ _ (Ne.symm hji), unl_set hib]; exact h)
      refine ⟨hs', ih (l.setIfInBounds j true) a' w' hfree' (ready_mono hr (Ne.symm hji)) h3.1 hu' hs' ?_ ?_⟩
      · rcases hu' with h | h
        · exact h w'
        · rcases hT with hT | hT
          · exact hT w'
          · exact hT.1 w' (hs' h.1)
      · rw [Array.setIfInBounds_comm _ _ hji]
        exact h3.2.2
/-- number i is taken first, whatever the world -/
theorem wpAnyB_pure {i : Nat} {oi : Oper} {v : Value} {fuel : Nat} {l : Array Bool} {a : Act} {w : World} (hi : ops[i]? = some oi) (hib : br.contains i = false)
    (hs : Region.noSelect ops = true) (hf : Region.free md ops l i = true) (hr : (Region.ready md ops l).contains i = true)
    (hQ : ∀ c a w, Q (.panic c) (a.put oi.dst v) w → Q (.panic c) a w) (hy : YieldsIf P ops (fun _ => True) oi v a) (hS : unl br l = true → S w)
    (h : wpAnyB P md ops Q S br fuel (l.setIfInBounds i true) (a.put oi.dst v) w) : wpAnyB P md ops Q S br (fuel + 1) l a w :=
  wpAnyB_first hi (fun hm => by rw [List.contains_iff_mem.2 hm] at hib; cases hib) (Region.noSelect_spec hs) hQ (.inl fun _ => trivial) fuel l a w (Region.free_spec hi hf) (by simpa using hr) hy (.inl fun _ => trivial) hS trivial h
/-- number i is taken first, of a world that meets S -/
theorem wpAnyB_take {i : Nat} {oi : Oper} {v : Value} {fuel : Nat} {l : Array Bool} {a : Act} {w : World} (hi : ops[i]? = some oi) (hib : br.contains i = false) (hu : unl br l = true) (hcl : closedB md ops l = true) (hwt : waitB md ops br i = true)
    (hs : Region.noSelect ops = true) (hf : Region.free md ops l i = true) (hr : (Region.ready md ops l).contains i = true)
    (hQ : ∀ c a w, Q (.panic c) (a.put oi.dst v) w → Q (.panic c) a w) (hy : YieldsIf P ops S oi v a) (hS : S w)
    (h : wpAnyB P md ops Q S br fuel (l.setIfInBounds i true) (a.put oi.dst v) w) : wpAnyB P md ops Q S br (fuel + 1) l a w :=
  wpAnyB_first hi (fun hm => by rw [List.contains_iff_mem.2 hm] at hib; cases hib) (Region.noSelect_spec hs) hQ (.inr ⟨fun _ h => h, hwt⟩) fuel l a w (Region.free_spec hi hf) (by simpa using hr) hy (.inr ⟨hu, closedB_spec hcl⟩) (fun _ => hS) hS h
/-- each of rs comes up next -/
def AllReadyB (P : Program) (md : Region.Mode) (ops : Array Oper) (Q : Exit → Act → World → Prop) (S : World → Prop) (br : List Nat) (fuel : Nat) (l : Array Bool) (a : Act) (w : World) (rs : List Nat) : Prop :=
  ∀ i ∈ rs, wpOp P ops Q i (fun a' w' => (unl br (l.setIfInBounds i true) = true → S w') ∧ wpAnyB P md ops Q S br fuel (l.setIfInBounds i true) a' w') a w
theorem AllReadyB.nil {fuel : Nat} {l : Array Bool} {a : Act} {w : World} : AllReadyB P md ops Q S br fuel l a w [] := fun _ h => by cases h
/-- it comes up while br waits: S is to be shown behind it -/
theorem AllReadyB.cons {fuel : Nat} {l : Array Bool} {a : Act} {w : World} {i : Nat} {o : Oper} {rs : List Nat} (ho : ops[i]? = some o)
    (h : ∀ K' : Act → World → Prop, Shut (∀ a w, S w → (S w → wpAnyB P md ops Q S br fuel (l.setIfInBounds i true) a w) → K' a w) → if Region.wanted o (yielded ops a.tmps) = true then Oper.wp P o a w K' Q else K' (a.put o.dst undef) w)
    (hs : AllReadyB P md ops Q S br fuel l a w rs) : AllReadyB P md ops Q S br fuel l a w (i :: rs) := fun j hj => by
  rcases List.mem_cons.1 hj with rfl | hj
  · exact wpOp_step ho (fun K' hK => h K' (fun a w hS hW => hK a w ⟨fun _ => hS, hW hS⟩))
  · exact hs j hj
/-- one of br has come up, or this is one: nothing is to be shown behind it -/
theorem AllReadyB.last {fuel : Nat} {l : Array Bool} {a : Act} {w : World} {i : Nat} {o : Oper} {rs : List Nat} (ho : ops[i]? = some o) (hu : unl br (l.setIfInBounds i true) = false)
    (h : ∀ K' : Act → World → Prop, Shut (∀ a w, wpAnyB P md ops Q S br fuel (l.setIfInBounds i true) a w → K' a w) → if Region.wanted o (yielded ops a.tmps) = true then Oper.wp P o a w K' Q else K' (a.put o.dst undef) w)
    (hs : AllReadyB P md ops Q S br fuel l a w rs) : AllReadyB P md ops Q S br fuel l a w (i :: rs) := fun j hj => by
  rcases List.mem_cons.1 hj with rfl | hj
  · exact wpOp_step ho (fun K' hK => h K' (fun a w hW => hK a w ⟨(fun e => by rw [hu] at e; exact absurd e (by decide)), hW⟩))
  · exact hs j hj
theorem wpAnyB_ready {rs : List Nat} {fuel : Nat} {l : Array Bool} {a : Act} {w : World} (hr : Region.ready md ops l = rs) (hne : rs ≠ []) (h : AllReadyB P md ops Q S br fuel l a w rs) : wpAnyB P md ops Q S br (fuel + 1) l a w :=
  ⟨fun h0 => absurd (hr ▸ h0) hne, hr ▸ h⟩
theorem wpAnyB_done {l : Array Bool} {a : Act} {w : World} (hr : Region.ready md ops l = []) (h : Q .normal a w) : ∀ fuel, wpAnyB P md ops Q S br fuel l a w
  | 0 => ⟨hr, h⟩
  | _ + 1 => ⟨fun _ => h, by rw [hr]; simp⟩
theorem wp_region_B {id : Nat} {a : Act} {w : World} (br : List Nat) (hm : P.follows .mixedOrders = true) (hS : S w.drew)
    (h : S w.drew → wpAnyB P .any ops Q S br ops.size (Array.replicate ops.size false) a w.drew) : (Code.region id ops true).wp P Q a w :=
  wp_region_any hm (wpAny_of_B _ _ _ _ (h hS))
end
end Go.Proofs.YtjnokhaojpijhaaGreatDoor
/- A region that draws its order, walked operation by operation: the premises that pay themselves. -/
namespace Go.Proofs.YtjnokhaojpijhaaGreatDoor

section
variable {P : Program} {md : Region.Mode} {ops : Array Oper} {Q : Exit → Act → World → Prop} {S : World → Prop}
/-- number i is taken first, of a world that meets S -/
theorem tkH (i : Nat) (oi : Oper) {v : Value} {fuel : Nat} {l : Array Bool} {a b : Act} {w : World} (hi : ops[i]? = some oi := by rfl)
    (hs : Region.noSelect ops = true := by kernel_rfl) (hf : Region.free md ops l i = true := by kernel_rfl) (hr : (Region.ready md ops l).contains i = true := by kernel_rfl)
    (hQ : ∀ c a w, Q (.panic c) (a.put oi.dst v) w → Q (.panic c) a w := by exact fun _ _ _ h => h) (hw : Region.wanted oi (yielded ops a.tmps) = true := by rfl)
    (hy : ∀ w_, S w_ → (execOp a.eval oi).run P w_ = .ok (.value v) w_ := by intro w_ hSw; (try dsimp only at hSw); go_simp; (try with_reducible rfl)) (hS : S w := by assumption)
    (hb : a.put oi.dst v = b := by (try simp only [Act.put, List.setIfInBounds_toArray, List.set_cons_zero, List.set_cons_succ]); (try with_reducible rfl))
    (h : wpAnyH P md ops Q S fuel (l.setIfInBounds i true) b w) : wpAnyH P md ops Q S (fuel + 1) l a w :=
  wpAnyH_take hi hs hf hr hQ (.inl ⟨hw, hy⟩) hS (hb ▸ h)
/-- number i's guard is not met -/
theorem tkU (i : Nat) (oi : Oper) {fuel : Nat} {l : Array Bool} {a b : Act} {w : World} (hi : ops[i]? = some oi := by rfl)
    (hs : Region.noSelect ops = true := by kernel_rfl) (hf : Region.free md ops l i = true := by kernel_rfl) (hr : (Region.ready md ops l).contains i = true := by kernel_rfl)
    (hQ : ∀ c a w, Q (.panic c) (a.put oi.dst undef) w → Q (.panic c) a w := by exact fun _ _ _ h => h) (hw : Region.wanted oi (yielded ops a.tmps) = false := by rfl) (hS : S w := by assumption)
    (hb : a.put oi.dst undef = b := by (try simp only [Act.put, List.setIfInBounds_toArray, List.set_cons_zero, List.set_cons_succ]); (try with_reducible rfl))
    (h : wpAnyH P md ops Q S fuel (l.setIfInBounds i true) b w) : wpAnyH P md ops Q S (fuel + 1) l a w :=
  wpAnyH_take hi hs hf hr hQ (.inr ⟨hw, rfl⟩) hS (hb ▸ h)
/-- the same where br waits (core/XOrdersB): whatever the world -/
theorem tkP {br : List Nat} (i : Nat) (oi : Oper) {v : Value} {fuel : Nat} {l : Array Bool} {a b : Act} {w : World} (hi : ops[i]? = some oi := by rfl) (hib : br.contains i = false := by kernel_rfl)
    (hs : Region.noSelect ops = true := by kernel_rfl) (hf : Region.free md ops l i = true := by kernel_rfl) (hr : (Region.ready md ops l).contains i = true := by kernel_rfl)
    (hQ : ∀ c a w, Q (.panic c) (a.put oi.dst v) w → Q (.panic c) a w := by exact fun _ _ _ h => h) (hw : Region.wanted oi (yielded ops a.tmps) = true := by rfl)
    (hy : ∀ w_, (fun _ : World => True) w_ → (execOp a.eval oi).run P w_ = .ok (.value v) w_ := by intro w_ hSw; (try dsimp only at hSw); go_simp; (try with_reducible rfl)) (hS : S w := by assumption)
    (hb : a.put oi.dst v = b := by (try simp only [Act.put, List.setIfInBounds_toArray, List.set_cons_zero, List.set_cons_succ]); (try with_reducible rfl))
    (h : wpAnyB P md ops Q S br fuel (l.setIfInBounds i true) b w) : wpAnyB P md ops Q S br (fuel + 1) l a w :=
  wpAnyB_pure hi hib hs hf hr hQ (.inl ⟨hw, hy⟩) (fun _ => hS) (hb ▸ h)
/-- the same, one of br has come up -/
theorem tkQ {br : List Nat} (i : Nat) (oi : Oper) {v : Value} {fuel : Nat} {l : Array Bool} {a b : Act} {w : World} (hi : ops[i]? = some oi := by rfl) (hib : br.contains i = false := by kernel_rfl)
    (hs : Region.noSelect ops = true := by kernel_rfl) (hf : Region.free md ops l i = true := by kernel_rfl) (hr : (Region.ready md ops l).contains i = true := by kernel_rfl)
    (hQ : ∀ c a w, Q (.panic c) (a.put oi.dst v) w → Q (.panic c) a w := by exact fun _ _ _ h => h) (hw : Region.wanted oi (yielded ops a.tmps) = true := by rfl)
    (hy : ∀ w_, (fun _ : World => True) w_ → (execOp a.eval oi).run P w_ = .ok (.value v) w_ := by intro w_ hSw; (try dsimp only at hSw); go_simp; (try with_reducible rfl)) (hu : unl br l = false := by kernel_rfl)
    (hb : a.put oi.dst v = b := by (try simp only [Act.put, List.setIfInBounds_toArray, List.set_cons_zero, List.set_cons_succ]); (try with_reducible rfl))
    (h : wpAnyB P md ops Q S br fuel (l.setIfInBounds i true) b w) : wpAnyB P md ops Q S br (fuel + 1) l a w :=
  wpAnyB_pure hi hib hs hf hr hQ (.inl ⟨hw, hy⟩) (fun e => Bool.noConfusion (hu.symm.trans e)) (hb ▸ h)
/-- of a world that meets S -/
theorem tkB {br : List Nat} (i : Nat) (oi : Oper) {v : Value} {fuel : Nat} {l : Array Bool} {a b : Act} {w : World} (hi : ops[i]? = some oi := by rfl) (hib : br.contains i = false := by kernel_rfl)
    (hu : unl br l = true := by kernel_rfl) (hcl : closedB md ops l = true := by kernel_rfl) (hwt : waitB md ops br i = true := by kernel_rfl)
    (hs : Region.noSelect ops = true := by kernel_rfl) (hf : Region.free md ops l i = true := by kernel_rfl) (hr : (Region.ready md ops l).contains i = true := by kernel_rfl)
    (hQ : ∀ c a w, Q (.panic c) (a.put oi.dst v) w → Q (.panic c) a w := by exact fun _ _ _ h => h) (hw : Region.wanted oi (yielded ops a.tmps) = true := by rfl)
    (hy : ∀ w_, S w_ → (execOp a.eval oi).run P w_ = .ok (.value v) w_ := by intro w_ hSw; (try dsimp only at hSw); go_simp; (try with_reducible rfl)) (hS : S w := by assumption)
    (hb : a.put oi.dst v = b := by (try simp only [Act.put, List.setIfInBounds_toArray, List.set_cons_zero, List.set_cons_succ]); (try with_reducible rfl))
    (h : wpAnyB P md ops Q S br fuel (l.setIfInBounds i true) b w) : wpAnyB P md ops Q S br (fuel + 1) l a w :=
  wpAnyB_take hi hib hu hcl hwt hs hf hr hQ (.inl ⟨hw, hy⟩) hS (hb ▸ h)
end
end Go.Proofs.YtjnokhaojpijhaaGreatDoor
/- A range over a function whose body may panic: the frame's own function is known, so a panic of a round goes on through yield. -/
namespace Go.Proofs.YtjnokhaojpijhaaGreatDoor
open Go.RowKit
section
variable {P : Program} {f : FuncId} {a : Act} {w : World} {Q : Exit → Act → World → Prop}
/-- what a code does in a frame of function f (no round) -/
def WpAt (P : Program) (f : FuncId) (c : Code) (Q : Exit → Act → World → Prop) (a : Act) (w : World) : Prop :=
  ∀ (b : Frame) (k : List Item) (cs : List Frame), b.roundOf = none → b.fn = f →
    ∃ e a' w', Q e a' w' ∧ ArrivesIn (Machine.fenced P Fence.wide) P (lone (b.atR a (.code c :: k)) cs w) b k cs e a' w'
theorem WpAt.of_wp {n : Nat} {c : Code} (h : c.wpIn Fence.wide n P Q a w) : WpAt P f c Q a w := fun b k cs hro _ => h b k cs hro trivial (room_wide _)
theorem WpAt.seq {x y : Code} (h : WpAt P f x (Exit.then (WpAt P f y Q) Q) a w) : WpAt P f (.seq x y) Q a w := by
  intro b k cs hro hb
  have s0 := StepsIn.one (fenced_wide P (lone (b.atR a (.code (.seq x y) :: k)) cs w)) (stepR_seq (P := P))
  obtain ⟨e, a1, w1, hq, ha⟩ := h b (.code y :: k) cs hro hb
  by_cases hn : e = .normal
  · subst hn
    obtain ⟨e2, a2, w2, hq2, ha2⟩ := hq b k cs hro hb
    exact ⟨e2, a2, w2, hq2, (ArrivesIn.of_steps (s0.trans ha) ha2)⟩
  · refine ⟨e, a1, w1, by cases e <;> first | exact hq | exact absurd rfl hn, .of_steps s0 (.pass (x := .code y) rfl (fun _ _ => .inl hn) ha)⟩
/-- a block that is left at its end, or by a panic -/
theorem WpAt.block {id : Nat} {c : Code} (h : WpAt P f c (fun e a' w' => (e = .normal ∧ Q .normal a' w') ∨ ∃ ch, e = .panic ch ∧ Q (.panic ch) a' w') a w) : WpAt P f (.block id c) Q a w := by
  intro b k cs hro hb
  have s0 := StepsIn.one (fenced_wide P (lone (b.atR a (.code (.block id c) :: k)) cs w)) (stepR_block (P := P))
  obtain ⟨e, a1, w1, hq, ha⟩ := h b (.inBlock id :: k) cs hro hb
  rcases hq with ⟨rfl, hq⟩ | ⟨ch, rfl, hq⟩
  · exact ⟨.normal, a1, w1, hq, (s0.trans ha).trans (.one (fenced_wide P _) (stepR_inBlock (P := P)))⟩
  · obtain ⟨todo, hs⟩ := ha
    exact ⟨_, a1, w1, hq, todo, s0.trans hs⟩
/-- a round whose body ends, or panics -/
theorem roundP {fd : Func} (hf : P.funcs[f]? = some fd) {n l : Nat} {tmps : Array Value} {assign body : Code} {R : Ending → World → Prop}
    (h : assign.wpIn (Fence.wide.inRound l) n P (Exit.then (fun a1 w1 => ∃ w2, (Instr.beginRound l).run P w1 = .ok () w2 ∧ body.wpIn (Fence.wide.inRound l) n P
      (fun e a3 w3 => (e = .normal ∧ ∃ v w4, (Instr.endRound l none).run P w3 = .ok v w4 ∧ R (.returned v) w4) ∨ ∃ ch, e = .panic ch ∧ a3.defers = [] ∧ R (.panicked ch) w3) a1 w2) (fun _ _ _ => False)) { tmps := tmps, defers := [] } w) :
    RoundIn Fence.wide n P l f tmps assign body w R := by
  refine ⟨trivial, fun c cs _ => ?_⟩
  obtain ⟨b, eb⟩ : ∃ b : Frame, b = { (default : Frame) with fn := f, kind := .normal, roundOf := some l } := ⟨_, rfl⟩
  have e0 : Frame.round l f tmps assign body .normal = b.atR { tmps := tmps, defers := [] } [.code assign, .beginRound, .code body] := by subst eb; simp [Frame.round, Frame.atR]
  have h1 : b.roundOf = some l := by rw [eb]
  have h2 : b.kind = .normal := by rw [eb]
  have h3 : b.fn = f := by rw [eb]
  obtain ⟨e, a1, w1, hq, ha⟩ := h b [.beginRound, .code body] (c :: cs) h1 trivial (fun _ hd => by simp [Fence.wide] at hd)
  rw [← e0] at ha
  cases e with
  | normal =>
    obtain ⟨w2, hbr, hbody⟩ := hq
    have s1 := StepsIn.one (fenced_wide P (lone (b.atR a1 [.beginRound, .code body]) (c :: cs) w1)) (stepR_beginRound h1 hbr)
    obtain ⟨e2, a3, w3, hq2, ha2⟩ := hbody b [] (c :: cs) h1 trivial (fun _ hd => by simp [Fence.wide] at hd)
    rcases hq2 with ⟨rfl, v, w4, hend, hR⟩ | ⟨ch, rfl, hd, hR⟩
    · exact ⟨.returned v, w4, hR, StepsIn.trans ha (s1.trans (StepsIn.trans ha2 (.one (fenced_wide P _) (stepR_round_end h1 h2 hend))))⟩
    · obtain ⟨todo, hs⟩ := ha2
      refine ⟨.panicked ch, w3, hR, StepsIn.trans ha (s1.trans (hs.trans (.one (fenced_wide P _) (step_leave_panicked ⟨rfl, ?_, fd, ?_⟩))))⟩
      · show (b.atR a3 todo).defers = []
        simp [Frame.atR, hd]
      · show P.funcs[(b.atR a3 todo).fn]? = some fd
        simp [Frame.atR, h3, hf]
  | _ => exact hq.elim
/-- the statement: the iterator ends, and no round has left a jump; or it passes a panic up -/
theorem WpAt.rangeFunc {g : Operand} {ps : Array Tmp} {assign body : Code} {gf : FuncId} {lb : Array Value} (hg : a.eval g = .func (.func gf) #[] lb) (eg : ∀ args w, (callFunc gf args).run P w = .ok (.enter gf args) w)
    (h : CallsIn Fence.wide 0 P gf (#[.func (.yield (w.heap.size + 1)) #[] #[]] ++ lb)
      ((w.alloc (.deferred (some []))).alloc (.loop { state := .ready, pending := none, fn := f, tmps := a.tmps, params := ps, assign := assign, body := body, defers := w.heap.size }))
      (fun e w3 => (∃ v w4, e = .returned v ∧ (Instr.endLoop (w.heap.size + 1)).run P w3 = .ok none w4 ∧ Q .normal { a with defers := { target := .collected w.heap.size, args := #[] } :: a.defers } w4) ∨
        ∃ ch, e = .panicked ch ∧ Q (.panic ch) { a with defers := { target := .collected w.heap.size, args := #[] } :: a.defers } w3)) :
    WpAt P f (.rangeFunc g ps assign body) Q a w := by
  intro b k cs hro hb
  subst hb
  have he := run_enterLoop_outer (P := P) (w := w) b.fn a.tmps ps assign body
  rw [← hro] at he
  obtain ⟨W1, hW1⟩ : ∃ W1, (w.alloc (.deferred (some []))).alloc (.loop { state := .ready, pending := none, fn := b.fn, tmps := a.tmps, params := ps, assign := assign, body := body, defers := w.heap.size }) = W1 := ⟨_, rfl⟩
  rw [hW1] at he h
  have hres : (resolve a.eval (rangeCall g (w.heap.size + 1)) 0).run P W1 = .ok { target := .fn (.func gf) lb, args := #[.func (.yield (w.heap.size + 1)) #[] #[]] } W1 := by
    simp only [resolve, hg]; simp [go_sem]
  have hinv : (invoke (.fn (.func gf) lb) #[.func (.yield (w.heap.size + 1)) #[] #[]]).run P W1 = .ok (.enter gf (#[.func (.yield (w.heap.size + 1)) #[] #[]] ++ lb)) W1 := by simp [invoke, go_sem, eg]
  have s1 := stepR_rangeFunc (b := b) (k := k) (cs := cs) he hres hinv
  obtain ⟨e, w3, fr, hR, hs, -, hl⟩ := h.2 (b.atR { a with defers := [{ target := .collected w.heap.size, args := #[] }] ++ a.defers } (.inRangeFunc (w.heap.size + 1) :: k) :: cs) (room_wide _)
  rcases hR with ⟨v, w4, rfl, hend, hQ⟩ | ⟨ch, rfl, hQ⟩
  · refine ⟨.normal, _, w4, hQ, StepsIn.head (fenced_wide P _) s1 (StepsIn.trans hs (.head (fenced_wide P _) (step_leave_returned hl) ?_))⟩
    rw [finish_atR_inRangeFunc]
    exact .one (fenced_wide P _) (stepR_endRangeFunc hend)
  · refine ⟨.panic ch, _, w3, hQ, .inRangeFunc (w.heap.size + 1) :: k, StepsIn.head (fenced_wide P _) s1 (StepsIn.trans hs (.one (fenced_wide P _) ?_))⟩
    rw [← Frame.raise_atR]
    exact step_leave_panicked hl
/-- a function's contract, where its body's walk knows whose frame it is -/
theorem callsAt {n : Nat} {fd : Func} {c : Code} {args : Array Value} {R : Ending → World → Prop} (hf : P.funcs[f]? = some fd) (hc : fd.body = some c)
    (h : WpAt P f c (fun e a' w' => (e = .ret ∧ LeavesInM Fence.wide n P fd a'.tmps R a'.defers .returning w') ∨ ∃ ch, e = .panic ch ∧ LeavesInM Fence.wide n P fd a'.tmps R a'.defers (.panicking ch) w')
      { tmps := args ++ Array.replicate (fd.ntmps - args.size) undef, defers := [] } w) : CallsIn Fence.wide n P f args w R := by
  refine ⟨trivial, fun cs hr => ?_⟩
  obtain ⟨b, eb⟩ : ∃ b : Frame, b = { (default : Frame) with fn := f, kind := .normal, roundOf := none } := ⟨_, rfl⟩
  have e0 : Frame.enter P f args .normal = b.atR { tmps := args ++ Array.replicate (fd.ntmps - args.size) undef, defers := [] } [.code c] := by subst eb; simp [Frame.enter, Frame.atR, hf, hc]
  have h1 : b.roundOf = none := by rw [eb]
  have h3 : b.fn = f := by rw [eb]
  obtain ⟨e, a', w', hq, ha⟩ := h b [] cs h1 h3
  rw [← e0] at ha
  have hk : (b.atR a' []).kind = .normal := by simp [Frame.atR, eb]
  rcases hq with ⟨rfl, hL⟩ | ⟨ch, rfl, hL⟩
  · obtain ⟨todo, hs⟩ := ha.1 h1
    obtain ⟨e', w2, fr, hR, hs2, hfn, hl⟩ := leaves_stepsInM a'.defers .returning w' { b.atR a' todo with mode := .returning } cs rfl (by simp [Frame.atR]) (by simp [Frame.atR]) (by simp [Frame.atR, h3, hf]) (by simp [Frame.atR, eb]) trivial hr hL
    exact ⟨e', w2, fr, hR, ComesIn.of_steps hs hs2, by rw [hfn]; simp [Frame.atR, h3], hl⟩
  · obtain ⟨todo, hs⟩ := ha
    obtain ⟨e', w2, fr, hR, hs2, hfn, hl⟩ := leaves_stepsInM a'.defers (.panicking ch) w' { b.atR a' todo with mode := .panicking ch } cs rfl (by simp [Frame.atR]) (by simp [Frame.atR]) (by simp [Frame.atR, h3, hf]) (by simp [Frame.atR, eb]) trivial hr hL
    exact ⟨e', w2, fr, hR, ComesIn.of_steps hs hs2, by rw [hfn]; simp [Frame.atR, h3], hl⟩
end
end Go.Proofs.YtjnokhaojpijhaaGreatDoor
/- Layer reach: what the chapter asks, as plain functions on lists and sets. -/
namespace Go.Proofs.YtjnokhaojpijhaaGreatDoor
abbrev allNRc : Nat := 18446744073709551615
/-- an object that may be reached -/
abbrev inO (ls : Rws) (o : Int) : Prop := 1 ≤ o ∧ o ≤ 64 ∧ o ≤ (ls.length : Int)
def ownFRc (ls : Rws) : Nat := firstF ls.length
def nextF (ls : Rws) (s : Nat) : Nat := (objs s).foldl (fun a o => a ||| (ofF (rowF ls o) &&& ownFRc ls)) 0
/-- what is at most so many slots away -/
def levF (ls : Rws) (opn r : Nat) : Nat → Nat
  | 0 => r &&& ownFRc ls
  | k + 1 => levF ls opn r k ||| nextF ls (levF ls opn r k &&& opn)
def fromF (ls : Rws) (r : Nat) : Nat := levF ls allNRc r 64
def dstF (ls : Rws) (opn r : Nat) (o : Int) : Int :=
  match (List.range 65).find? fun k => hasF (levF ls opn r k) o with
  | some k => (k : Int)
  | none => -1
theorem has_orRc (a b : Nat) (o : Int) : hasF (a ||| b) o = (hasF a o || hasF b o) := by
  unfold hasF; rw [Nat.testBit_or]; cases decide (1 ≤ o) <;> cases decide (o ≤ 64) <;> simp
theorem has_andRc (a b : Nat) (o : Int) : hasF (a &&& b) o = (hasF a o && hasF b o) := by
  unfold hasF; rw [Nat.testBit_and]; cases decide (1 ≤ o) <;> cases decide (o ≤ 64) <;> simp
theorem has_zero (o : Int) : hasF 0 o = false := by unfold hasF; simp
theorem has_rng {s : Nat} {o : Int} (h : hasF s o = true) : 1 ≤ o ∧ o ≤ 64 := objs_rng (mem_objs.2 h)
theorem has_extRc {a b : Nat} (ha : a < 18446744073709551616) (hb : b < 18446744073709551616) (h : ∀ o, hasF a o = true ↔ hasF b o = true) : a = b :=
  set_ext ha hb fun i hi => by rw [← has_bit a i hi, ← has_bit b i hi, Bool.eq_iff_iff]; exact h _
theorem lor_lt {a b : Nat} (ha : a < 18446744073709551616) (hb : b < 18446744073709551616) : a ||| b < 18446744073709551616 := by
  rw [← p64] at *; exact Nat.or_lt_two_pow ha hb
theorem land_lt {a : Nat} (b : Nat) (ha : a < 18446744073709551616) : a &&& b < 18446744073709551616 := Nat.lt_of_le_of_lt Nat.and_le_left ha
theorem has_own (ls : Rws) (o : Int) : hasF (ownFRc ls) o = decide (inO ls o) := has_first _ _
theorem has_all (o : Int) (h : 1 ≤ o ∧ o ≤ 64) : hasF allNRc o = true := by
  have := has_first 64 o
  rw [show firstF 64 = allNRc by decide] at this
  rw [this, decide_eq_true_iff]; omega
theorem fold_has (g : Int → Nat) (x : Int) : ∀ (l : List Int) (s : Nat), hasF (l.foldl (fun a o => a ||| g o) s) x = true ↔ hasF s x = true ∨ ∃ o ∈ l, hasF (g o) x = true
  | [], s => by simp
  | o :: l, s => by
    rw [List.foldl_cons, fold_has g x l, has_orRc, Bool.or_eq_true]
    constructor
    · rintro ((h | h) | ⟨p, hp, h⟩)
      · exact .inl h
      · exact .inr ⟨o, by simp, h⟩
      · exact .inr ⟨p, by simp [hp], h⟩
    · rintro (h | ⟨p, hp, h⟩)
      · exact .inl (.inl h)
      · rcases List.mem_cons.1 hp with rfl | hp
        · exact .inl (.inr h)
        · exact .inr ⟨p, hp, h⟩
theorem fold_lt (g : Int → Nat) (hg : ∀ o, g o < 18446744073709551616) : ∀ (l : List Int) (s : Nat), s < 18446744073709551616 → l.foldl (fun a o => a ||| g o) s < 18446744073709551616
  | [], _, h => h
  | o :: l, _, h => fold_lt g hg l _ (lor_lt h (hg o))
theorem next_lt (ls : Rws) (s : Nat) : nextF ls s < 18446744073709551616 := fold_lt _ (fun _ => land_lt _ (ofF_lt _)) _ _ (by decide)
theorem has_next (ls : Rws) (s : Nat) (x : Int) : hasF (nextF ls s) x = true ↔ inO ls x ∧ ∃ y, hasF s y = true ∧ x ∈ rowF ls y := by
  unfold nextF
  rw [fold_has]
  simp only [has_zero, Bool.false_eq_true, false_or, has_andRc, Bool.and_eq_true, has_own, decide_eq_true_eq, has_of, mem_objs]
  constructor
  · rintro ⟨y, hy, ⟨_, h⟩, hx⟩; exact ⟨hx, y, hy, h⟩
  · rintro ⟨hx, y, hy, h⟩; exact ⟨y, hy, ⟨⟨hx.1, hx.2.1⟩, h⟩, hx⟩
theorem lev_lt (ls : Rws) (opn : Nat) {r : Nat} (hr : r < 18446744073709551616) : ∀ k, levF ls opn r k < 18446744073709551616
  | 0 => land_lt _ hr
  | k + 1 => lor_lt (lev_lt ls opn hr k) (next_lt _ _)
theorem has_lev0 (ls : Rws) (opn r : Nat) (x : Int) : hasF (levF ls opn r 0) x = true ↔ hasF r x = true ∧ inO ls x := by
  unfold levF; rw [has_andRc, Bool.and_eq_true, has_own, decide_eq_true_eq]
theorem has_levS (ls : Rws) (opn r k : Nat) (x : Int) : hasF (levF ls opn r (k + 1)) x = true ↔ hasF (levF ls opn r k) x = true ∨ (inO ls x ∧ ∃ y, hasF (levF ls opn r k) y = true ∧ hasF opn y = true ∧ x ∈ rowF ls y) := by
  rw [levF, has_orRc, Bool.or_eq_true, has_next]
  simp only [has_andRc, Bool.and_eq_true, and_assoc]
theorem lev_mono (ls : Rws) (opn r : Nat) (x : Int) {k : Nat} (h : hasF (levF ls opn r k) x = true) : ∀ j, k ≤ j → hasF (levF ls opn r j) x = true := by
  intro j hj
  induction hj with
  | refl => exact h
  | step _ ih => exact (has_levS ..).2 (.inl ih)
/-- what can be reached -/
inductive Rch (ls : Rws) (opn r : Nat) : Int → Prop
  | root {x : Int} (h : hasF r x = true) (hx : inO ls x) : Rch ls opn r x
  | step {x y : Int} (h : Rch ls opn r y) (ho : hasF opn y = true) (hm : x ∈ rowF ls y) (hx : inO ls x) : Rch ls opn r x
theorem Rch.inO {ls : Rws} {opn r : Nat} {x : Int} (h : Rch ls opn r x) : inO ls x := by cases h <;> assumption
def farA (far : List Int) (o : Int) : Int := far.getD (o - 1).toNat (-1)
abbrev metA (far : List Int) (o : Int) : Prop := 1 ≤ o ∧ o ≤ 64 ∧ farA far o ≠ -1
def meetOk (ls : Rws) (far : List Int) (o : Int) : Bool := decide (inO ls o) && decide (farA far o = -1)
def meetFar (ls : Rws) (far : List Int) (o d : Int) : List Int := if meetOk ls far o then far.set (o - 1).toNat d else far
def meetQ (ls : Rws) (far q : List Int) (o : Int) : List Int := if meetOk ls far o then q ++ [o] else q
def unmetN (far : List Int) : Nat := far.count (-1)
structure InvRc (ls : Rws) (opn r : Nat) (R far q : List Int) : Prop where
  len : far.length = 64
  sound : ∀ x, metA far x → 0 ≤ farA far x ∧ inO ls x ∧ hasF (levF ls opn r (farA far x).toNat) x = true ∧ farA far x + unmetN far ≤ 63
  qmet : ∀ x ∈ q, metA far x
  roots : ∀ x ∈ R, inO ls x → farA far x = 0
  sorted : q.Pairwise fun a b => farA far a ≤ farA far b
  near : ∀ y, metA far y → ∀ x ∈ q, farA far y ≤ farA far x + 1
  done : ∀ x, metA far x → x ∉ q → hasF opn x = true → ∀ v ∈ rowF ls x, inO ls v → metA far v ∧ farA far v ≤ farA far x + 1
  room : unmetN far + q.length ≤ 64
theorem farA_set {far : List Int} {o d : Int} (hl : far.length = 64) (ho : 1 ≤ o ∧ o ≤ 64) (x : Int) (hx : 1 ≤ x) : farA (far.set (o - 1).toNat d) x = if x = o then d else farA far x := by
  unfold farA
  split
  · rename_i h; subst h
    rw [List.getD_eq_getElem?_getD, List.getElem?_set_self (by omega)]; rfl
  · rw [List.getD_eq_getElem?_getD, List.getElem?_set_ne (by omega), ← List.getD_eq_getElem?_getD]
theorem unmet_set : ∀ (far : List Int) (k : Nat) (d : Int), far.getD k 0 = -1 → d ≠ -1 → unmetN (far.set k d) + 1 = unmetN far
  | [], k, d, h, _ => by simp at h
  | x :: far, 0, d, h, hd => by
    simp only [List.getD_cons_zero] at h
    subst h
    unfold unmetN
    rw [List.set_cons_zero, List.count_cons_self, List.count_cons_of_ne (by omega)]
  | x :: far, k + 1, d, h, hd => by
    have ih := unmet_set far k d (by simpa using h) hd
    unfold unmetN at *
    rw [List.set_cons_succ]
    by_cases hx : x = -1
    · subst hx; rw [List.count_cons_self, List.count_cons_self]; omega
    · rw [List.count_cons_of_ne (by omega), List.count_cons_of_ne (by omega)]; exact ih
theorem getD_far {far : List Int} (hl : far.length = 64) {o : Int} (ho : 1 ≤ o ∧ o ≤ 64) : far.getD (o - 1).toNat 0 = farA far o := by
  unfold farA
  rw [List.getD_eq_getElem?_getD, List.getD_eq_getElem?_getD, List.getElem?_eq_getElem (by omega)]; rfl
theorem meetOk_iff {ls : Rws} {far : List Int} {o : Int} : meetOk ls far o = true ↔ inO ls o ∧ farA far o = -1 := by
  unfold meetOk; rw [Bool.and_eq_true, decide_eq_true_iff, decide_eq_true_iff]
/-- what meeting keeps: Q is the queue with whom is being gone by ahead of it -/
theorem meet_inv {ls : Rws} {opn r : Nat} {R far q P : List Int} {o d : Int} (h : InvRc ls opn r R far (P ++ q)) (hok : meetOk ls far o = true) (h0 : 0 ≤ d)
    (hlev : hasF (levF ls opn r d.toNat) o = true) (hroot : o ∈ R → d = 0) (hdu : d + unmetN far ≤ 64) (hlo : ∀ x ∈ P ++ q, farA far x ≤ d) (hup : ∀ x ∈ P ++ q, d ≤ farA far x + 1) (hup' : ∀ y, metA far y → farA far y ≤ d + 1) :
    InvRc ls opn r R (meetFar ls far o d) (P ++ meetQ ls far q o) ∧ (∀ x, metA far x → farA (meetFar ls far o d) x = farA far x) ∧ metA (meetFar ls far o d) o ∧ farA (meetFar ls far o d) o = d := by
  obtain ⟨hin, hun⟩ := meetOk_iff.1 hok
  have hl := h.len
  have hs := farA_set (far := far) (d := d) hl ⟨hin.1, hin.2.1⟩
  have hu : unmetN (far.set (o - 1).toNat d) + 1 = unmetN far := unmet_set _ _ _ ((getD_far hl ⟨hin.1, hin.2.1⟩).trans hun) (by omega)
  unfold meetFar meetQ
  rw [if_pos hok, if_pos hok]
  have hso : farA (far.set (o - 1).toNat d) o = d := by rw [hs o hin.1, if_pos rfl]
  have hne : ∀ x, metA far x → x ≠ o := fun x hx e => hx.2.2 (e ▸ hun)
  have hold : ∀ x, metA far x → farA (far.set (o - 1).toNat d) x = farA far x := fun x hx => by rw [hs x hx.1, if_neg (hne x hx)]
  have hmo : metA (far.set (o - 1).toNat d) o := ⟨hin.1, hin.2.1, by rw [hso]; omega⟩
  have hm : ∀ x, metA far x → metA (far.set (o - 1).toNat d) x := fun x hx => ⟨hx.1, hx.2.1, by rw [hold x hx]; exact hx.2.2⟩
  have hinv : ∀ x, metA (far.set (o - 1).toNat d) x → x = o ∨ metA far x := fun x hx => by
    by_cases e : x = o
    · exact .inl e
    · have := hx.2.2
      rw [hs x hx.1, if_neg e] at this
      exact .inr ⟨hx.1, hx.2.1, this⟩
  refine ⟨⟨by simp [hl], fun x hx => ?_, fun x hx => ?_, fun x hx hin' => ?_, ?_, fun y hy x hx => ?_, fun x hx hq ho v hv hiv => ?_, ?_⟩, hold, hmo, hso⟩
  · rcases hinv x hx with rfl | hx
    · rw [hso]; exact ⟨h0, hin, hlev, by omega⟩
    · rw [hold x hx]; obtain ⟨a, b, c, e⟩ := h.sound x hx; exact ⟨a, b, c, by omega⟩
  · rw [← List.append_assoc, List.mem_append, List.mem_singleton] at hx
    rcases hx with hx | rfl
    · exact hm x (h.qmet x hx)
    · exact hmo
  · by_cases e : x = o
    · subst e; rw [hso]; exact hroot hx
    · rw [hs x hin'.1, if_neg e]; exact h.roots x hx hin'
  · rw [← List.append_assoc, List.pairwise_append]
    refine ⟨List.Pairwise.imp_of_mem (fun {a b} ha hb hab => by rw [hold a (h.qmet a ha), hold b (h.qmet b hb)]; exact hab) h.sorted, by simp, fun a ha b hb => ?_⟩
    rw [List.mem_singleton] at hb; subst hb
    rw [hso, hold a (h.qmet a ha)]; exact hlo a ha
  · rw [← List.append_assoc, List.mem_append, List.mem_singleton] at hx
    rcases hinv y hy with rfl | hy2
    · rw [hso]
      rcases hx with hx | rfl
      · rw [hold x (h.qmet x hx)]; exact hup x hx
      · rw [hso]; omega
    · rw [hold y hy2]
      rcases hx with hx | rfl
      · rw [hold x (h.qmet x hx)]; exact h.near y hy2 x hx
      · rw [hso]; exact hup' y hy2
  · rw [← List.append_assoc, List.mem_append, List.mem_singleton, not_or] at hq
    rcases hinv x hx with rfl | hx
    · exact absurd rfl hq.2
    · obtain ⟨a, b⟩ := h.done x hx hq.1 ho v hv hiv
      exact ⟨hm v a, by rw [hold v a, hold x hx]; exact b⟩
  · have := h.room
    rw [← List.append_assoc, List.length_append, List.length_singleton]; omega
/-- roots -/
def RInv (ls : Rws) (opn r : Nat) (R far q : List Int) : Prop := InvRc ls opn r R far q ∧ ∀ x, metA far x → farA far x = 0 ∧ x ∈ q
theorem rinv_start (ls : Rws) (opn r : Nat) : RInv ls opn r [] (List.replicate 64 (-1)) [] := by
  have hf : ∀ x, farA (List.replicate 64 (-1)) x = -1 := fun x => by
    unfold farA; rw [List.getD_eq_getElem?_getD, List.getElem?_replicate]; split <;> rfl
  have hn : ∀ x, ¬ metA (List.replicate 64 (-1)) x := fun x h => h.2.2 (hf x)
  exact ⟨⟨by simp, fun x h => absurd h (hn x), by simp, by simp, by simp, fun y h => absurd h (hn y), fun x h => absurd h (hn x), by decide⟩, fun x h => absurd h (hn x)⟩
theorem rinv_step {ls : Rws} {opn r : Nat} {R far q : List Int} {o : Int} (h : RInv ls opn r R far q) (ho : hasF r o = true) : RInv ls opn r (R ++ [o]) (meetFar ls far o 0) (meetQ ls far q o) := by
  obtain ⟨h1, h2⟩ := h
  by_cases hok : meetOk ls far o = true
  · obtain ⟨hin, hun⟩ := meetOk_iff.1 hok
    have hu1 : unmetN far ≤ 64 := by unfold unmetN; have := List.count_le_length (a := (-1 : Int)) (l := far); rw [h1.len] at this; exact this
    have h1' : InvRc ls opn r R far ([] ++ q) := h1
    obtain ⟨a, b, c, e⟩ := meet_inv (d := 0) h1' hok (Int.le_refl _) ((has_lev0 ..).2 ⟨ho, hin⟩) (fun _ => rfl) (by omega) (fun x hx => by rw [(h2 x (h1.qmet x hx)).1]; exact Int.le_refl _) (fun x hx => by rw [(h2 x (h1.qmet x hx)).1]; decide) (fun y hy => by rw [(h2 y hy).1]; decide)
    rw [List.nil_append] at a
    refine ⟨⟨a.len, a.sound, a.qmet, fun x hx hi => ?_, a.sorted, a.near, a.done, a.room⟩, fun x hx => ?_⟩
    · rw [List.mem_append, List.mem_singleton] at hx
      rcases hx with hx | rfl
      · exact a.roots x hx hi
      · exact e
    · by_cases hxo : x = o
      · subst hxo; exact ⟨e, by unfold meetQ; rw [if_pos hok]; simp⟩
      · have hx' : metA far x := ⟨hx.1, hx.2.1, by
          have := hx.2.2
          unfold meetFar at this
          rw [if_pos hok, farA_set h1.len ⟨hin.1, hin.2.1⟩ x hx.1, if_neg hxo] at this
          exact this⟩
        rw [b x hx']
        exact ⟨(h2 x hx').1, by unfold meetQ; rw [if_pos hok]; simp [(h2 x hx').2]⟩
  · have e1 : meetFar ls far o 0 = far := by unfold meetFar; rw [if_neg hok]
    have e2 : meetQ ls far q o = q := by unfold meetQ; rw [if_neg hok]
    rw [e1, e2]
    refine ⟨⟨h1.len, h1.sound, h1.qmet, fun x hx hi => ?_, h1.sorted, h1.near, h1.done, h1.room⟩, h2⟩
    rw [List.mem_append, List.mem_singleton] at hx
    rcases hx with hx | rfl
    · exact h1.roots x hx hi
    · have : ¬ (inO ls x ∧ farA far x = -1) := fun hh => hok (meetOk_iff.2 hh)
      have hm : metA far x := ⟨hi.1, hi.2.1, fun e => this ⟨hi, e⟩⟩
      exact (h2 x hm).1
/-- whom is gone by: closed -/
theorem inv_shut {ls : Rws} {opn r : Nat} {R far q : List Int} {o : Int} (h : InvRc ls opn r R far (o :: q)) (hd : hasF opn o = true → ∀ v ∈ rowF ls o, inO ls v → metA far v ∧ farA far v ≤ farA far o + 1) : InvRc ls opn r R far q :=
  ⟨h.len, h.sound, fun x hx => h.qmet x (List.mem_cons_of_mem _ hx), h.roots, (List.pairwise_cons.1 h.sorted).2, fun y hy x hx => h.near y hy x (List.mem_cons_of_mem _ hx),
    fun x hx hq ho v hv hi => by
      by_cases e : x = o
      · subst e; exact hd ho v hv hi
      · exact h.done x hx (by rw [List.mem_cons, not_or]; exact ⟨e, hq⟩) ho v hv hi,
    by have := h.room; rw [List.length_cons] at this; omega⟩
/-- whom is gone by: the first k of its slots have been looked at -/
def MInv (ls : Rws) (opn r : Nat) (R far q : List Int) (o : Int) (k : Nat) : Prop :=
  InvRc ls opn r R far (o :: q) ∧ ∀ v ∈ (rowF ls o).take k, inO ls v → metA far v ∧ farA far v ≤ farA far o + 1
theorem minv_step {ls : Rws} {opn r : Nat} {far q : List Int} {o v : Int} {k : Nat} (h : MInv ls opn r (objs r) far q o k) (ho : hasF opn o = true) (hk : (rowF ls o)[k]? = some v) :
    MInv ls opn r (objs r) (meetFar ls far v (farA far o + 1)) (meetQ ls far q v) o (k + 1) ∧ farA (meetFar ls far v (farA far o + 1)) o = farA far o := by
  obtain ⟨h1, h2⟩ := h
  have hmo := h1.qmet o (by simp)
  obtain ⟨s0, s1, s2, s3⟩ := h1.sound o hmo
  have htk : (rowF ls o).take (k + 1) = (rowF ls o).take k ++ [v] := by
    rw [List.take_add_one, hk]; rfl
  by_cases hok : meetOk ls far v = true
  · obtain ⟨hin, hun⟩ := meetOk_iff.1 hok
    have h1' : InvRc ls opn r (objs r) far ([o] ++ q) := h1
    obtain ⟨a, b, c, e⟩ := meet_inv (d := farA far o + 1) h1' hok (by omega)
      (by rw [show (farA far o + 1).toNat = (farA far o).toNat + 1 by omega]; exact (has_levS ..).2 (.inr ⟨hin, o, s2, ho, List.mem_of_getElem? hk⟩))
      (fun hr => absurd (h1.roots v hr hin) (by rw [hun]; decide)) (by omega)
      (fun x hx => h1.near x (h1.qmet x hx) o (by simp))
      (fun x hx => by
        rcases List.mem_append.1 hx with hx | hx
        · rw [List.mem_singleton] at hx; subst hx; exact Int.le_refl _
        · have := (List.pairwise_cons.1 h1.sorted).1 x hx; omega)
      (fun y hy => by have := h1.near y hy o (by simp); omega)
    refine ⟨⟨a, fun x hx hi => ?_⟩, b o hmo⟩
    rw [htk, List.mem_append, List.mem_singleton] at hx
    rw [b o hmo]
    rcases hx with hx | rfl
    · obtain ⟨m1, m2⟩ := h2 x hx hi
      have := b x m1
      exact ⟨⟨m1.1, m1.2.1, by rw [this]; exact m1.2.2⟩, by rw [this]; exact m2⟩
    · exact ⟨c, by rw [e]; exact Int.le_refl _⟩
  · have e1 : meetFar ls far v (farA far o + 1) = far := by unfold meetFar; rw [if_neg hok]
    have e2 : meetQ ls far q v = q := by unfold meetQ; rw [if_neg hok]
    rw [e1, e2]
    refine ⟨⟨h1, fun x hx hi => ?_⟩, rfl⟩
    rw [htk, List.mem_append, List.mem_singleton] at hx
    rcases hx with hx | rfl
    · exact h2 x hx hi
    · have : ¬ (inO ls x ∧ farA far x = -1) := fun hh => hok (meetOk_iff.2 hh)
      have hm : metA far x := ⟨hi.1, hi.2.1, fun e => this ⟨hi, e⟩⟩
      exact ⟨hm, h1.near x hm o (by simp)⟩
/-- at the end -/
theorem inv_end {ls : Rws} {opn r : Nat} {far : List Int} (h : InvRc ls opn r (objs r) far []) : far = (List.range 64).map fun (i : Nat) => dstF ls opn r ((i : Int) + 1) := by
  have key : ∀ k x, hasF (levF ls opn r k) x = true → metA far x ∧ farA far x ≤ k := by
    intro k
    induction k with
    | zero =>
      intro x hx
      obtain ⟨hr, hi⟩ := (has_lev0 ..).1 hx
      have := h.roots x (mem_objs.2 hr) hi
      exact ⟨⟨hi.1, hi.2.1, by rw [this]; decide⟩, by rw [this]; exact Int.le_refl _⟩
    | succ k ih =>
      intro x hx
      rcases (has_levS ..).1 hx with hx | ⟨hi, y, hy, ho, hm⟩
      · obtain ⟨a, b⟩ := ih x hx; exact ⟨a, by omega⟩
      · obtain ⟨a, b⟩ := ih y hy
        obtain ⟨c, e⟩ := h.done y a (by simp) ho x hm hi
        exact ⟨c, by omega⟩
  apply List.ext_getElem?
  intro i
  by_cases hi : i < 64
  · rw [List.getElem?_map, List.getElem?_range hi, List.getElem?_eq_getElem (by rw [h.len]; exact hi)]
    simp only [Option.map_some]
    congr 1
    have hfi : far[i]'(by rw [h.len]; exact hi) = farA far ((i : Int) + 1) := by
      unfold farA
      rw [List.getD_eq_getElem?_getD, show ((i : Int) + 1 - 1).toNat = i by omega, List.getElem?_eq_getElem (by rw [h.len]; exact hi)]; rfl
    rw [hfi]
    unfold dstF
    rcases hf : (List.range 65).find? fun k => hasF (levF ls opn r k) ((i : Int) + 1) with _ | k
    · apply Decidable.byContradiction
      intro hne
      have hm : metA far ((i : Int) + 1) := ⟨by omega, by omega, hne⟩
      obtain ⟨s0, s1, s2, s3⟩ := h.sound _ hm
      have := List.find?_eq_none.1 hf (farA far ((i : Int) + 1)).toNat (List.mem_range.2 (by omega))
      exact this s2
    · obtain ⟨hk, asx, bs, hab, hbef⟩ := List.find?_eq_some_iff_append.1 hf
      obtain ⟨hm, hle⟩ := key k _ hk
      obtain ⟨s0, s1, s2, s3⟩ := h.sound _ hm
      have hk2 : asx.length = k := by
        have h1 : (List.range 65)[asx.length]? = some k := by rw [hab]; simp
        have h2 : asx.length < 65 := by have := congrArg List.length hab; simp at this; omega
        rw [List.getElem?_range h2] at h1; simpa using h1
      apply Decidable.byContradiction
      intro hne
      have hlt : (farA far ((i : Int) + 1)).toNat < asx.length := by
        simp only at hne ⊢
        omega
      have hmem : (farA far ((i : Int) + 1)).toNat ∈ asx := by
        have h1 : (List.range 65)[(farA far ((i : Int) + 1)).toNat]? = some (farA far ((i : Int) + 1)).toNat := List.getElem?_range (by have := congrArg List.length hab; simp at this; omega)
        rw [hab, List.getElem?_append_left hlt] at h1
        exact List.mem_of_getElem? h1
      have := hbef _ hmem
      rw [s2] at this
      simp at this
  · rw [List.getElem?_eq_none (by rw [h.len]; omega), List.getElem?_eq_none (by simp; omega)]
end Go.Proofs.YtjnokhaojpijhaaGreatDoor
/- Layer reach: plain facts for the statements: what is reached from what is reached; by way of some; a slot cleared. -/
namespace Go.Proofs.YtjnokhaojpijhaaGreatDoor
theorem Rch.mono {ls : Rws} {p q r s : Nat} (hp : ∀ y, hasF p y = true → hasF q y = true) (hr : ∀ y, hasF r y = true → Go.Proofs.YtjnokhaojpijhaaGreatDoor.inO ls y → Rch ls q s y) {x : Int} (h : Rch ls p r x) : Rch ls q s x := by
  induction h with
  | root h hx => exact hr _ h hx
  | step _ ho hm hx ih => exact .step ih (hp _ ho) hm hx
theorem under_hasRc {a b : Nat} (ha : a < 18446744073709551616) (hb : b < 18446744073709551616) : underF a b = true ↔ ∀ x, hasF a x = true → hasF b x = true := by
  rw [under_iff ha hb]
  constructor
  · intro h x hx
    have hr := has_rng hx
    obtain ⟨i, rfl⟩ : ∃ i : Nat, x = (i : Int) + 1 := ⟨(x - 1).toNat, by omega⟩
    rw [has_bit _ _ (by omega)] at hx ⊢
    exact h i (by omega) hx
  · intro h i hi hx
    rw [← has_bit _ _ hi] at hx ⊢
    exact h _ hx
end Go.Proofs.YtjnokhaojpijhaaGreatDoor
