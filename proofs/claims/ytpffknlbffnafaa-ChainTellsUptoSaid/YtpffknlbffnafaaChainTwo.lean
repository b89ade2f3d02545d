import Derived.Deep.RegionHeldLaw
namespace Go.Proofs.Ytpffknlbffnafaa.ch
open Go
theorem put_comm {i j : Nat} (h : i ≠ j) (a : Act) (u v : Value) : (a.put (some j) v).put (some i) u = (a.put (some i) u).put (some j) v := by
  simp only [Act.put]
  rw [Array.setIfInBounds_comm _ _ (Ne.symm h)]
section
variable {P : Program} {ops : Array Oper} {Q : Exit → Act → World → Prop} {md : Region.Mode} {S : World → Prop}
/-- two operations that may come up in either order, and meet again -/
theorem wpAnyH_two {i j : Nat} {oi oj : Oper} {fuel : Nat} {listed : Array Bool} {a : Act} {w : World} (R : Value → Value → World → Prop)
    (hr : Region.ready md ops listed = [i, j]) (hi : Region.ready md ops (listed.setIfInBounds i true) = [j]) (hj : Region.ready md ops (listed.setIfInBounds j true) = [i])
    (hoi : ops[i]? = some oi) (hoj : ops[j]? = some oj) (hsw : (listed.setIfInBounds j true).setIfInBounds i true = (listed.setIfInBounds i true).setIfInBounds j true)
    (hput : ∀ u v : Value, (a.put oj.dst v).put oi.dst u = (a.put oi.dst u).put oj.dst v)
    (h1 : ∀ K : Act → World → Prop, (∀ u w', S w' → (∀ K' : Act → World → Prop, (∀ v w'', S w'' → R u v w'' → K' ((a.put oi.dst u).put oj.dst v) w'') → if Region.wanted oj (yielded ops (a.put oi.dst u).tmps) = true then Oper.wp P oj (a.put oi.dst u) w' K' Q else K' ((a.put oi.dst u).put oj.dst undef) w') → K (a.put oi.dst u) w') → if Region.wanted oi (yielded ops a.tmps) = true then Oper.wp P oi a w K Q else K (a.put oi.dst undef) w)
    (h2 : ∀ K : Act → World → Prop, (∀ v w', S w' → (∀ K' : Act → World → Prop, (∀ u w'', S w'' → R u v w'' → K' ((a.put oj.dst v).put oi.dst u) w'') → if Region.wanted oi (yielded ops (a.put oj.dst v).tmps) = true then Oper.wp P oi (a.put oj.dst v) w' K' Q else K' ((a.put oj.dst v).put oi.dst undef) w') → K (a.put oj.dst v) w') → if Region.wanted oj (yielded ops a.tmps) = true then Oper.wp P oj a w K Q else K (a.put oj.dst undef) w)
    (rest : ∀ u v w', S w' → R u v w' → wpAnyH P md ops Q S fuel ((listed.setIfInBounds i true).setIfInBounds j true) ((a.put oi.dst u).put oj.dst v) w') :
    wpAnyH P md ops Q S (fuel + 2) listed a w := by
  refine ⟨fun h => (by rw [hr] at h; cases h), fun k hk => ?_⟩
  rw [hr] at hk
  have go : ∀ {o : Oper} {k : Nat} {a : Act} {w : World} {K : Act → World → Prop}, ops[k]? = some o → (if Region.wanted o (yielded ops a.tmps) = true then Oper.wp P o a w K Q else K (a.put o.dst undef) w) → wpOp P ops Q k K a w := by
    intro o k a w K ho h
    exact wpOp_step ho (fun K' hK => by
      by_cases hw : Region.wanted o (yielded ops a.tmps) = true
      · rw [if_pos hw] at h ⊢; exact Oper.wp_mono hK h
      · rw [if_neg hw] at h ⊢; exact hK _ _ h)
  rcases List.mem_cons.1 hk with rfl | hk
  · refine go hoi (h1 _ fun u w' hS hrest => ⟨hS, fun h => (by rw [hi] at h; cases h), fun l hl => ?_⟩)
    rw [hi] at hl
    obtain rfl : l = j := by simpa using hl
    exact go hoj (hrest _ fun v w'' hS2 hR => ⟨hS2, rest u v w'' hS2 hR⟩)
  · obtain rfl : k = j := by simpa using hk
    refine go hoj (h2 _ fun v w' hS hrest => ⟨hS, fun h => (by rw [hj] at h; cases h), fun l hl => ?_⟩)
    rw [hj] at hl
    obtain rfl : l = i := by simpa using hl
    refine go hoi (hrest _ fun u w'' hS2 hR => ⟨hS2, ?_⟩)
    rw [hsw, hput u v]
    exact rest u v w'' hS2 hR
end
end Go.Proofs.Ytpffknlbffnafaa.ch
