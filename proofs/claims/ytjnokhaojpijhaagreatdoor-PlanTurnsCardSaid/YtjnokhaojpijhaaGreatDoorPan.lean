import Derived.Test.YtjnokhaojpijhaaGreatDoorPac
import Derived.Test.YtjnokhaojpijhaaGreatDoorPam
/- Layer pick: Print. -/
namespace Go.Proofs.YtjnokhaojpijhaaGreatDoor
open Go.RowKit
/-- the bytes of a pick's text, of picks -/
def textP (p : Int × Int) : List UInt8 := Lib.encodeRune (writeF p)
def printL (l : List (Int × Int)) : List UInt8 := l.flatMap textP
theorem textP_le (p : Int × Int) : (textP p).length ≤ 4 := by
  have h := Lib.runeCells_le (writeF p)
  rw [Lib.runeCells_length] at h
  exact h.2
theorem printL_le (l : List (Int × Int)) : (printL l).length ≤ 4 * l.length := by
  induction l with
  | nil => simp [printL]
  | cons p l ih => have := textP_le p; simp only [printL, List.flatMap_cons, List.length_append, List.length_cons] at *; omega
theorem writeF_rng (p : Int × Int) : 0 ≤ writeF p ∧ writeF p ≤ 2000 := by
  obtain ⟨k, n⟩ := p
  unfold writeF
  split
  · omega
  · rename_i h
    have h' : (!right (k, n)) = false := by simpa using h
    dsimp only
    split
    · have := right_1 h' (by simpa using ‹k = 1›); omega
    · split
      · have := right_2 h' (by simpa using ‹k = 2›); omega
      · omega
theorem rowF_below {w w' : World} {B : Nat} {e : TypeId} {v : Value} {n : Nat} {xs : List Value} (h : w.ownsRowF B e 1 v n xs) (hb : Below w.heap.size w w') : w'.ownsRowF B e 1 v n xs := by
  refine ⟨h.1, ?_⟩
  rcases h.2 with h0 | ⟨g, cap, cur, fz, hv, hg, hh, hr⟩
  · exact .inl h0
  · refine .inr ⟨g, cap, cur, fz, hv, hg, (hb.block g ?_).trans hh, hr⟩
    rcases Nat.lt_or_ge g w.heap.size with hlt | hge
    · exact hlt
    · rw [Array.getElem?_eq_none hge] at hh; cases hh
theorem builderAt_below {T e : TypeId} {B b : Nat} {p : Value} {bs : List Value} {w w' : World} (h : Lib.BuilderAtF T e B b p bs w) (hb : Below w.heap.size w w') : Lib.BuilderAtF T e B b p bs w' := by
  have hlt := h.lt
  obtain ⟨h1, v, h2, h3, h4⟩ := h
  exact ⟨h1, v, (hb.block _ hlt).trans h2, rowF_below h3 hb, h4⟩
theorem builder_belowPk {T e : TypeId} {B b : Nat} {bs : List Value} {w w' : World} (h : Lib.IsBuilderF T e B b bs w) (hb : Below w.heap.size w w') : Lib.IsBuilderF T e B b bs w' :=
  h.imp (builderAt_below · hb) (builderAt_below · hb)
set_option maxRecDepth 100000 in
set_option maxHeartbeats 2000000 in
theorem Print_anyPk (v : Value) (l : List (Int × Int)) (w : World) (hl : Picks w v l) (hlen : l.length ≤ 8796093022208) :
    Calls Tryz.prog 113 #[v] w fun e w' => e = .returned (.string ⟨(printL l).toArray⟩) ∧ Below w.heap.size w w' := by
  have hl' := hl
  obtain ⟨A, c, rfl, h1, h2, -⟩ := hl'
  unfold maxLen at h2
  have HL := hide hl
  clear hl
  go_enter Tryz.func113, Tryz.ntmps113
  go_wp2
  go_loopw [8] (fun i wr => ∃ k : Nat, k ≤ l.length ∧ i = .int .i64 k ∧ Below w.heap.size w wr ∧ Lib.IsBuilderF 162 5 w.heap.size w.heap.size (Lib.byteCells (printL (l.take k))) wr) (fun i _ => l.length - (intOf i).toNat)
  case atStart => exact ⟨0, Nat.zero_le _, rfl, (Below.refl _ _).alloc (Nat.le_refl _) _, Lib.IsBuilderF.of (Lib.fresh_isBuilder _ _ w)⟩
  case round =>
    obtain ⟨k, hk, rfl, hb, hI⟩ := hrel
    by_cases hlt : k < l.length
    · obtain ⟨b, off, rfl, hbl, c0, c1⟩ := picks_at (HL.out.below hb) hlt
      have hsn : printL (l.take (k + 1)) = printL (l.take k) ++ Lib.encodeRune (writeF (l[k].1, l[k].2)) := by
        rw [List.take_succ_eq_append_getElem hlt, printL, List.flatMap_append]; simp [printL, textP]
      have HS := hide hsn
      have hpl := printL_le (l.take k)
      have htl : (l.take k).length ≤ l.length := List.length_take_le' _ _
      clear hsn
      have hr := writeF_rng (l[k].1, l[k].2)
      have hsz := hb.size
      go_wp2_with (first
        | (go_at_call 160; refine (write_any _ _ _).mono ?_; rintro e w' ⟨rfl, hb'⟩; have hbW := bcall1 (Below.refl wr.heap.size wr) hb')
        | (go_at_call 159; refine (Builder_WriteRune_k w.heap.size w.heap.size _ _ (by omega) (by omega) _ (builder_belowPk hI hbW) (by rw [Lib.byteCells_length]; omega) (by have := hbW.size; omega)).mono ?_; rintro e w2 ⟨rfl, h1, b1, k1⟩))
      go_roundw
      case rel => exact ⟨k + 1, by omega, by go_num, (hb.trans (hbW.mono hsz)).trans b1, by rw [HS.out, Lib.byteCells_append, Lib.byteCells_encodeRune]; exact .inr h1⟩
      case measure => simp [intOf]; omega
    · go_wp2_with (go_at_call 114; refine (Builder_String_k w.heap.size w.heap.size _ _ hI hb.size).mono ?_; rintro e w2 ⟨rfl, _, b1, _⟩)
      go_ret
      refine ⟨?_, hb.trans b1⟩
      rw [List.take_of_length_le (by omega)]; rfl
end Go.Proofs.YtjnokhaojpijhaaGreatDoor
/- Layer pick: what is printed is parsed as it was. -/
namespace Go.Proofs.YtjnokhaojpijhaaGreatDoor
open Go.RowKit
end Go.Proofs.YtjnokhaojpijhaaGreatDoor
