/- A region that draws its order, inside whatever fence: each of its orders, walked as a list. -/
import Derived.TacticsIn
import Derived.OrdersIn
namespace Go.Proofs.YtdmbcjckgfjcaaaGreatDoor
section
variable {F : Fence} {n : Nat} {P : Program} {ops : Array Oper} {Q : Exit → Act → World → Prop} {md : Region.Mode}
/-- the orders in which a region's operations may come up -/
def allOrders (md : Region.Mode) (ops : Array Oper) : Nat → Array Bool → List (List Nat)
  | 0, _ => [[]]
  | fuel + 1, listed => match Region.ready md ops listed with
    | [] => [[]]
    | i :: r => (i :: r).flatMap fun j => (allOrders md ops fuel (listed.setIfInBounds j true)).map (j :: ·)
theorem orders_mem : ∀ (fuel t : Nat) (listed : Array Bool), Region.linearise.go md ops fuel t listed [] ∈ allOrders md ops fuel listed
  | 0, t, listed => by simp [Region.linearise.go, allOrders]
  | fuel + 1, t, listed => by
    simp only [Region.linearise.go, allOrders]
    change (match (Region.ready md ops listed)[t % (Region.ready md ops listed).length]? with
      | some i => Region.linearise.go md ops fuel (t / (Region.ready md ops listed).length) (listed.setIfInBounds i true) [i]
      | none => [].reverse) ∈ _
    cases hr : Region.ready md ops listed with
    | nil => simp
    | cons x xs =>
      have hlt : t % (x :: xs).length < (x :: xs).length := Nat.mod_lt _ (by simp)
      rw [List.getElem?_eq_getElem hlt]
      simp only
      rw [linearise_go_acc, List.reverse_singleton, List.singleton_append, List.mem_flatMap]
      exact ⟨_, List.getElem_mem hlt, List.mem_map.2 ⟨_, orders_mem fuel _ _, rfl⟩⟩
theorem wpOpsIn_list : ∀ (o : List Nat), wpOpsIn F n P ops Q o = wpListIn F n P ops Q (o.filterMap fun i => ops[i]?)
  | [] => by funext a w; simp [wpOpsIn, wpListIn]
  | i :: o => by
    funext a w
    have ih := wpOpsIn_list o
    cases h : ops[i]? with
    | none => simp only [wpOpsIn, h, List.filterMap_cons, ih]
    | some x => simp only [wpOpsIn, h, List.filterMap_cons, wpListIn, ih]
theorem wpIn_region_orders {id : Nat} {a : Act} {w : World} {L : List (List Nat)} (hm : P.follows .mixedOrders = true) (hL : allOrders .any ops ops.size (Array.replicate ops.size false) = L)
    (h : ∀ o ∈ L, wpListIn F n P ops Q (o.filterMap fun i => ops[i]?) a w.drew) : (Code.region id ops true).wpIn F n P Q a w :=
  wpIn_region_draw fun t => by
    simp only [Region.schedule, hm, Bool.true_or, if_true]
    rw [wpOpsIn_list]
    refine h _ ?_
    rw [← hL]
    exact orders_mem _ _ _
end
end Go.Proofs.YtdmbcjckgfjcaaaGreatDoor
