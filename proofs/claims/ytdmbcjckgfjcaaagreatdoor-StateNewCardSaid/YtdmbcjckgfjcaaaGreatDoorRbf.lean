import Derived.Deep.QuietTactic
import Derived.Lib.SliceRun
import Derived.BigQuiet
import Derived.Test.YtdmbcjckgfjcaaaGreatDoorRbe
import Derived.Test.YtdmbcjckgfjcaaaGreatDoorRac
/- Layer bag: Norm, Count, Sum, Add, Less, Same. -/
namespace Go.Proofs.YtdmbcjckgfjcaaaGreatDoor
open Go.RowKit Go.Maps
theorem grid_two {w : World} {v u : Value} {a b : List Int} (h : Ints w v a) (h' : Ints w u b) : Grid (w.alloc (.cells #[v, u] 77)) (.slice (some ⟨w.heap.size, 0, none⟩) 2 2) [a, b] :=
  ⟨[v, u], Sl.of_own one_len (own_new w w.heap.size [v, u] 77 1 2 (Nat.le_refl _) rfl (by decide)), rfl, fun i x l' hu hl => by
    rcases i with _ | _ | i
    · simp at hu hl; subst hu; subst hl; exact h.alloc _
    · simp at hu hl; subst hu; subst hl; exact h'.alloc _
    · simp at hu⟩
theorem sl_form {w : World} {v : Value} {l : List Int} (h : Ints w v l) : ∃ A c, v = .slice A l.length c ∧ l.length ≤ c ∧ c ≤ 2 ^ 63 - 1 := by
  obtain ⟨A, c, rfl, h1, h2, -⟩ := h
  exact ⟨A, c, rfl, h1, by unfold maxLen at h2; omega⟩
theorem tally_two {v u : Value} {a b : List Int} {w : World} (h : Ints w v a) (h' : Ints w u b) (hk : AllK a) (hk' : AllK b) (hb : a.length + b.length ≤ 40000000000000) :
    Calls Tryz.prog 98 #[.slice (some ⟨w.heap.size, 0, none⟩) 2 2] (w.alloc (.cells #[v, u] 77)) fun e w' => ∃ B, e = .returned (.map (some B)) ∧ TalL w' B (a ++ b) ∧ w.heap.size ≤ B ∧ Below w.heap.size w w' := by
  refine (tally_any _ [a, b] _ (grid_two h h') (fun x hx => by simp at hx; rcases hx with hx | hx; exact hk x hx; exact hk' x hx) (by simpa using hb)).mono ?_
  rintro e w' ⟨B, rfl, h1, h2, h3⟩
  simp only [List.flatten_cons, List.flatten_nil, List.append_nil] at h1
  exact ⟨B, rfl, h1, by simp at h2; omega, bcall1 (Below.refl _ _) h3⟩
theorem bSum_any (v u : Value) (a b : List Int) (w : World) (h : Ints w v a) (h' : Ints w u b) (hk : AllK a) (hk' : AllK b) (hb : a.length + b.length ≤ 17592186044416) :
    Calls Tryz.prog 29 #[v, u] w fun e w' => ∃ v', e = .returned v' ∧ w'.ownsRow w.heap.size 3 1 v' (sumB a b).length ((sumB a b).flatMap ic) ∧ Below w.heap.size w w' := by
  obtain ⟨A, c, rfl, h1, h2⟩ := sl_form h
  obtain ⟨A', c', rfl, h3, h4⟩ := sl_form h'
  have hT := hide (tally_two h h' hk hk' (by omega))
  have HK := hide (show AllK (a ++ b) from fun x hx => by rcases List.mem_append.1 hx with hx | hx; exact hk x hx; exact hk' x hx)
  clear h h' hk hk'
  go_enter Tryz.func29, Tryz.ntmps29
  go_wp2_with fail
  refine hT.out.mono ?_
  rintro e w1 ⟨B, rfl, hT1, hB, hb1⟩
  go_wp2_with fail
  refine (normed_any B (a ++ b).length _ (a ++ b) w1 hT1 (by rw [List.length_append]; exact hb) (fun _ => rfl) HK.out (by rw [List.length_append]; exact hb)).mono ?_
  rintro e w2 ⟨v2, rfl, ho, hb2⟩
  go_wp2
  go_ret
  exact ⟨_, rfl, own_base ho hb1.size, bcall hb1 hb2⟩
end Go.Proofs.YtdmbcjckgfjcaaaGreatDoor
/- Layer bag: slices.Equal on bags, Same. -/
namespace Go.Proofs.YtdmbcjckgfjcaaaGreatDoor
open Go.RowKit
theorem own_intsBg {base : Nat} {w : World} {v : Value} {l : List Int} (h : w.ownsRow base 3 1 v l.length (l.flatMap ic)) : Ints w v l := Sl.of_own ic_len h
end Go.Proofs.YtdmbcjckgfjcaaaGreatDoor
/- Layer bag: contracts with named values, where memory of layer mem lies beside. -/
namespace Go.Proofs.YtdmbcjckgfjcaaaGreatDoor
open Go.RowKit
theorem own_c {w0 w w' : World} {v : Value} {l r : List Int} {n : Nat} (hr : l = r) (hn : r.length = n) (h : w'.ownsRow w0.heap.size 3 1 v l.length (l.flatMap ic)) (hb : Below w.heap.size w w') :
    ∃ A c, v = .slice A n c ∧ (n ≤ c ∧ c ≤ 2 ^ 63 - 1) ∧ Ints w' (.slice A n c) r ∧ Below w.heap.size w w' := by
  subst hr hn
  have hi := own_intsBg h
  obtain ⟨A, c, rfl, h1, h2⟩ := sl_form hi
  exact ⟨A, c, rfl, ⟨h1, h2⟩, hi, hb⟩
theorem Sum_c (v u : Value) (a b : List Int) (w : World) (h : Ints w v a) (h' : Ints w u b) (hk : AllK a) (hk' : AllK b) (hb : a.length + b.length ≤ 17592186044416) (r : List Int) (hr : sumB a b = r) (m : Nat) (hm : r.length = m) :
    Calls Tryz.prog 29 #[v, u] w fun e w' => ∃ A c, e = .returned (.slice A m c) ∧ (m ≤ c ∧ c ≤ 2 ^ 63 - 1) ∧ Ints w' (.slice A m c) r ∧ Below w.heap.size w w' := by
  refine (bSum_any v u a b w h h' hk hk' hb).mono ?_
  rintro e w' ⟨v', rfl, ho, hbl⟩
  obtain ⟨A, c, rfl, h1, h2, h3⟩ := own_c hr hm ho hbl
  exact ⟨A, c, rfl, h1, h2, h3⟩
end Go.Proofs.YtdmbcjckgfjcaaaGreatDoor
