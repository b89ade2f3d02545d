/- Layer plan: the law's helper: bytes, one behind the other. -/
import Derived.Test.YtdmbcjckgfjcaaaGreatDoorRae
import Derived.Test.YtdmbcjckgfjcaaaGreatDoorRaf
namespace Go.Proofs.YtdmbcjckgfjcaaaGreatDoor
open Go.RowKit
/-- block B has the bytes v, i of them read -/
def Mk (w : World) (B : Nat) (v : Value) (l : List Int) (i : Nat) : Prop := B2 105 w B v (.int .i64 ((min i l.length : Nat) : Int))
theorem byteG_lt {l : List Int} {i : Nat} (h : i < l.length) : byteG l i = l[i] := by unfold byteG; rw [List.getD_eq_getElem?_getD, List.getElem?_eq_getElem h]; rfl
theorem byteG_ge {l : List Int} {i : Nat} (h : l.length ≤ i) : byteG l i = 0 := by unfold byteG; rw [List.getD_eq_getElem?_getD, List.getElem?_eq_none h]; rfl
theorem bytes_grown {w w' : World} {v : Value} {l : List Int} {B : Nat} (h : Bytes w v l) (hg : w.grownBy w' (some B)) (hne : 0 < l.length → ∀ x, v.ownBlock = some x → x ≠ B) : Bytes w' v l := by
  obtain ⟨A, c, rfl, h1, h2, h3⟩ := h
  refine ⟨A, c, rfl, h1, h2, fun hl => ?_⟩
  obtain ⟨b, off, rfl, hb, hc⟩ := h3 hl
  exact ⟨b, off, rfl, Nat.lt_of_lt_of_le hb hg.size, fun i p hp j u hu => hg.cell (hc i p hp j u hu) (by intro e; injection e with e; exact hne hl b rfl e)⟩
set_option maxRecDepth 100000 in
set_option maxHeartbeats 2000000 in
theorem byte_any (B : Nat) (v : Value) (l : List Int) (i : Nat) (w : World) (hM : Mk w B v l i) (hl : Bytes w v l) (hr : ∀ b ∈ l, 0 ≤ b ∧ b ≤ 255) (hne : 0 < l.length → ∀ x, v.ownBlock = some x → x ≠ B) :
    Calls Tryz.prog 35 #[.pointer (some ⟨B, 0, none⟩)] w fun e w' => e = .returned (.int .i64 (byteG l i)) ∧ Mk w' B v l (i + 1) ∧ w.grownBy w' (some B) := by
  obtain ⟨A, n, rfl, hn1, hn2, -⟩ := id hl
  unfold maxLen at hn2
  obtain ⟨m0, m1⟩ := hM.all
  obtain ⟨z0, z1⟩ := hM.free
  have HM := hide hM
  by_cases hlt : i < l.length
  · have hi : (min i l.length : Nat) = i := by omega
    rw [hi] at m1
    obtain ⟨b, off, rfl, hb, hc⟩ := bytes_atPk hl hlt
    have hbB : b ≠ B := hne (by omega) b rfl
    have HB := hide (byteG_lt hlt)
    have hx := hr l[i] (List.getElem_mem hlt)
    have HL := hide (show (min (i + 1) l.length : Nat) = i + 1 by omega)
    generalize l[i] = x at *
    have hw1 : IntKind.i64.wrap (i : Int) = (i : Int) := by simp [IntKind.wrap, IntKind.bits, IntKind.signed]; omega
    have hw2 : IntKind.i64.wrap x = x := by simp [IntKind.wrap, IntKind.bits, IntKind.signed]; omega
    have hi0 : (0 : Int) ≤ (i : Int) := by omega
    have hi1 : (i : Int) < (l.length : Int) := by omega
    have hi2 : (i : Int).toNat = i := by omega
    clear hM hl hr hne hi
    go_enter Tryz.func35, Tryz.ntmps35
    go_wp2
    go_quiet (fail)
    go_wp2
    go_quiet (fail)
    go_wp2
    go_ret
    refine ⟨by rw [HB.out]; rfl, ?_, grown_drew2 (grown_from2 (grown_set2 _ B 1 _)) _⟩
    have h := HM.out
    unfold Mk at h ⊢
    rw [HL.out]
    exact ((h.drewN _).set1 _).drewN _
  · have hi : (min i l.length : Nat) = l.length := by omega
    rw [hi] at m1
    have HB := hide (byteG_ge (show l.length ≤ i by omega))
    have HL := hide (show (min (i + 1) l.length : Nat) = (min i l.length : Nat) by omega)
    clear hM hl hr hne hi
    go_enter Tryz.func35, Tryz.ntmps35
    go_wp2
    go_quiet (fail)
    go_wp2
    go_ret
    refine ⟨by rw [HB.out]; rfl, ?_, grown_drew2 (grown_refl2 _ _) _⟩
    have h := HM.out
    unfold Mk at h ⊢
    rw [HL.out]; exact h.drewN _
end Go.Proofs.YtdmbcjckgfjcaaaGreatDoor
