import Derived.Test.YtjnokhaojpijhaaGreatDoorPac
import Derived.Test.YtjnokhaojpijhaaGreatDoorPam
/- Layer pick: Print. -/
namespace Go.Proofs.YtjnokhaojpijhaaGreatDoor
open Go.RowKit
/-- the bytes of a pick's text, of picks -/
def textP (p : Int × Int) : List UInt8 := Lib.encodeRune (writeF p)
def printL (l : List (Int × Int)) : List UInt8 := l.flatMap textP
theorem textP_le (p : Int × Int) : (textP p).length ≤ 4 := by
  have h := Lib.runeCells_le (writeF p)
  rw [Lib.runeCells_length] at h
  exact h.2
theorem printL_le (l : List (Int × Int)) : (printL l).length ≤ 4 * l.length := by
  induction l with
  | nil => simp [printL]
  | cons p l ih => have := textP_le p; simp only [printL, List.flatMap_cons, List.length_append, List.length_cons] at *; omega
theorem writeF_rng (p : Int × Int) : 0 ≤ writeF p ∧ writeF p ≤ 2000 := by
  obtain ⟨k, n⟩ := p
  unfold writeF
  split
  · omega
  · rename_i h
    have h' : (!right (k, n)) = false := by simpa using h
    dsimp only
    split
    · have := right_1 h' (by simpa using ‹k = 1›); omega
    · split
      · have := right_2 h' (by simpa using ‹k = 2›); omega
      · omega
theorem rowF_below {w w' : World} {B : Nat} {e : TypeId} {v : Value} {n : Nat} {xs : List Value} (h : w.ownsRowF B e 1 v n xs) (hb : Below w.heap.size w w') : w'.ownsRowF B e 1 v n xs := by
  refine ⟨h.1, ?_⟩
  rcases h.2 with h0 | ⟨g, cap, cur, fz, hv, hg, hh, hr⟩
  · exact .inl h0
  · refine .inr ⟨g, cap, cur, fz, hv, hg, (hb.block g ?_).trans hh, hr⟩
    rcases Nat.lt_or_ge g w.heap.size with hlt | hge
    · exact hlt
    · rw [Array.getElem?_eq_none hge] at hh; cases hh
theorem builderAt_below {T e : TypeId} {B b : Nat} {p : Value} {bs : List Value} {w w' : World} (h : Lib.BuilderAtF T e B b p bs w) (hb : Below w.heap.size w w') : Lib.BuilderAtF T e B b p bs w' := by
  have hlt := h.lt
  obtain ⟨h1, v, h2, h3, h4⟩ := h
  exact ⟨h1, v, (hb.block _ hlt).trans h2, rowF_below h3 hb, h4⟩
theorem builder_belowPk {T e : TypeId} {B b : Nat} {bs : List Value} {w w' : World} (h : Lib.IsBuilderF T e B b bs w) (hb : Below w.heap.size w w') : Lib.IsBuilderF T e B b bs w' :=
  h.imp (builderAt_below · hb) (builderAt_below · hb)
set_option maxRecDepth 100000 in
set_option maxHeartbeats 2000000 in
theorem Print_anyPk (v : Value) (l : List (Int × Int)) (w : World) (hl : Picks w v l) (hlen : l.length ≤ 8796093022208) :
    Calls Tryz.prog 113 #[v] w fun e w' => e = .returned (.string ⟨(printL l).toArray⟩) ∧ Below w.heap.size w w' := by
  have hl' := hl
  obtain ⟨A, c, rfl, h1, h2, -⟩ := hl'
  unfold maxLen at h2
  have HL := hide hl
  clear hl
  go_enter Tryz.func113, Tryz.ntmps113
  go_wp2
  go_loopw [8] (fun i wr => ∃ k : Nat, k ≤ l.length ∧ i = .int .i64 k ∧ Below w.heap.size w wr ∧ Lib.IsBuilderF 162 5 w.heap.size w.heap.size (Lib.byteCells (printL (l.take k))) wr) (fun i _ => l.length - (intOf i).toNat)
  case atStart => exact ⟨0, Nat.zero_le _, rfl, (Below.refl _ _).alloc (Nat.le_refl _) _, Lib.IsBuilderF.of (Lib.fresh_isBuilder _ _ w)⟩
  case round =>
    obtain ⟨k, hk, rfl, hb, hI⟩ := hrel
    by_cases hlt : k < l.length
    · obtain ⟨b, off, rfl, hbl, c0, c1⟩ := picks_at (HL.out.below hb) hlt
      have hsn : printL (l.take (k + 1)) = printL (l.take k) ++ Lib.encodeRune (writeF (l[k].1, l[k].2)) := by
        rw [List.take_succ_eq_append_getElem hlt, printL, List.flatMap_append]; simp [printL, textP]
      have HS := hide hsn
      have hpl := printL_le (l.take k)
      have htl : (l.take k).length ≤ l.length := List.length_take_le' _ _
      clear hsn
      have hr := writeF_rng (l[k].1, l[k].2)
      have hsz := hb.size
      go_wp2_with (first
        | (go_at_call 160; refine (write_any _ _ _).mono ?_; rintro e w' ⟨rfl, hb'⟩; have hbW := bcall1 (Below.refl wr.heap.size wr) hb')
        | (go_at_call 159; refine (Builder_WriteRune_k w.heap.size w.heap.size _ _ (by omega) (by omega) _ (builder_belowPk hI hbW) (by rw [Lib.byteCells_length]; omega) (by have := hbW.size; omega)).mono ?_; rintro e w2 ⟨rfl, h1, b1, k1⟩))
      go_roundw
      case rel => exact ⟨k + 1, by omega, by go_num, (hb.trans (hbW.mono hsz)).trans b1, by rw [HS.out, Lib.byteCells_append, Lib.byteCells_encodeRune]; exact .inr h1⟩
      case measure => simp [intOf]; omega
    · go_wp2_with (go_at_call 114; refine (Builder_String_k w.heap.size w.heap.size _ _ hI hb.size).mono ?_; rintro e w2 ⟨rfl, _, b1, _⟩)
      go_ret
      refine ⟨?_, hb.trans b1⟩
      rw [List.take_of_length_le (by omega)]; rfl
end Go.Proofs.YtjnokhaojpijhaaGreatDoor
/- Layer pick: what is printed is parsed as it was. -/
namespace Go.Proofs.YtjnokhaojpijhaaGreatDoor
open Go.RowKit
theorem bget (s : ByteArray) (i : Nat) (b : UInt8) (h : s.data.toList[i]? = some b) : s.get! i = b := by
  have h' : s.data[i]? = some b := by simpa using h
  show s.data[i]! = b
  rw [getElem!_def, h']
theorem bsize (s : ByteArray) : s.data.toList.length = s.size := by rw [Array.length_toList]; rfl
theorem drop_get {α : Type} {l r : List α} {n : Nat} (h : l.drop n = r) (k : Nat) : l[n + k]? = r[k]? := by rw [← h, List.getElem?_drop]
theorem decode_1 (s : ByteArray) (pos : Nat) (b : UInt8) (r : List UInt8) (h : s.data.toList.drop pos = b :: r) (hb : b.toNat < 128) : Utf8.decode s pos = (b.toNat, 1) := by
  have g := bget s (pos + 0) b (by rw [drop_get h]; rfl)
  simp only [Utf8.decode, g, hb, if_true]
theorem decode_2 (s : ByteArray) (pos : Nat) (b c : UInt8) (r : List UInt8) (h : s.data.toList.drop pos = b :: c :: r) (hb : b.toNat / 32 = 6) (hc : c.toNat / 64 = 2) (hv : 128 ≤ b.toNat % 32 * 64 + c.toNat % 64) :
    Utf8.decode s pos = (b.toNat % 32 * 64 + c.toNat % 64, 2) := by
  have g0 := bget s (pos + 0) b (by rw [drop_get h]; rfl)
  have g1 := bget s (pos + 1) c (by rw [drop_get h]; rfl)
  have hsz : pos + 1 < s.size := by
    have h1 : s.data.toList[pos + 1]? = some c := by rw [drop_get h]; rfl
    have := (List.getElem?_eq_some_iff.1 h1).1
    rw [bsize] at this; exact this
  have hn : ¬ b.toNat < 128 := by omega
  have g2 : s.get! pos = b := g0
  simp [Utf8.decode, g2, g1, hn, hb, hc, hsz, hv]
/-- a right pick's text, and how it is read -/
theorem text_1 {p : PP} (h : right p = true) (h1 : p.1 ≠ 2) : textP p = [(writeF p).toNat.toUInt8] ∧ ((writeF p) = 46 ∨ (97 ≤ writeF p ∧ writeF p < 113)) ∧ readFPk (writeF p) = (p, true) := by
  obtain ⟨a, b⟩ := p
  simp only [right, Bool.or_eq_true, Bool.and_eq_true, beq_iff_eq, decide_eq_true_eq] at h
  dsimp only at h1
  have hr : right (a, b) = true := by simp only [right, Bool.or_eq_true, Bool.and_eq_true, beq_iff_eq, decide_eq_true_eq]; exact h
  rcases h with ⟨rfl, rfl⟩ | ⟨⟨h2 | h2, h3⟩, h4⟩
  · exact ⟨rfl, .inl rfl, rfl⟩
  · subst h2
    have hw : writeF (1, b) = b + 96 := by simp [writeF, hr]
    refine ⟨?_, by omega, ?_⟩
    · unfold textP Lib.encodeRune; rw [Lib.encodeRuneZ_one (by omega) (by omega)]; rfl
    · rw [hw]; unfold readFPk; rw [if_neg (by omega), if_pos (by omega)]; simp
  · exact absurd h2 h1
theorem text_2 {p : PP} (h : right p = true) (h1 : p.1 = 2) : textP p = [(192 + writeF p / 64).toNat.toUInt8, (128 + writeF p % 64).toNat.toUInt8] ∧ 945 ≤ writeF p ∧ writeF p < 961 ∧ readFPk (writeF p) = (p, true) := by
  obtain ⟨a, b⟩ := p
  dsimp only at h1
  subst h1
  have hr := h
  simp only [right, Bool.or_eq_true, Bool.and_eq_true, beq_iff_eq, decide_eq_true_eq] at h
  have hw : writeF (2, b) = b + 944 := by simp [writeF, hr]
  have hb : 1 ≤ b ∧ b ≤ 16 := by omega
  refine ⟨?_, by omega, by omega, ?_⟩
  · unfold textP Lib.encodeRune; rw [Lib.encodeRuneZ_two (by omega) (by omega)]; rfl
  · rw [hw]; unfold readFPk; rw [if_neg (by omega), if_neg (by omega), if_pos (by omega)]; simp
theorem u8_nat {z : Int} (_h0 : 0 ≤ z) (h1 : z < 256) : (z.toNat.toUInt8).toNat = z.toNat := by
  simp [Nat.toUInt8]; omega
/-- one right pick ahead -/
theorem decode_pick (s : ByteArray) (pos : Nat) {p : PP} (h : right p = true) (r : List UInt8) (hs : s.data.toList.drop pos = textP p ++ r) : Utf8.decode s pos = ((writeF p).toNat, (textP p).length) ∧ 0 ≤ writeF p ∧ writeF p ≠ 32 ∧ writeF p ≠ 10 ∧ readFPk (writeF p) = (p, true) := by
  by_cases h1 : p.1 = 2
  · obtain ⟨e, h2, h3, h4⟩ := text_2 h h1
    rw [e] at hs
    refine ⟨?_, by omega, by omega, by omega, h4⟩
    have q0 := u8_nat (z := 192 + writeF p / 64) (by omega) (by omega)
    have q1 := u8_nat (z := 128 + writeF p % 64) (by omega) (by omega)
    rw [decode_2 s pos _ _ r hs (by rw [q0]; omega) (by rw [q1]; omega) (by rw [q0, q1]; omega), q0, q1, e]
    simp only [Prod.mk.injEq]
    exact ⟨by omega, rfl⟩
  · obtain ⟨e, h2, h3⟩ := text_1 h h1
    rw [e] at hs
    have q0 := u8_nat (z := writeF p) (by omega) (by omega)
    refine ⟨?_, by omega, by omega, by omega, h3⟩
    rw [decode_1 s pos _ r hs (by rw [q0]; omega), q0, e]
    rfl
/-- a blank, or a pick -/
def tok : Option PP ⊕ Unit → List UInt8
  | .inl (some p) => textP p
  | .inl none => [32]
  | .inr _ => [10]
def toks (l : List (Option PP ⊕ Unit)) : List UInt8 := l.flatMap tok
def picksOf (l : List (Option PP ⊕ Unit)) : List PP := l.filterMap fun t => match t with | .inl x => x | .inr _ => none
theorem parse_toks (s : ByteArray) : ∀ (l : List (Option PP ⊕ Unit)) (f pos : Nat) (acc : List PP), (∀ p, .inl (some p) ∈ l → right p = true) → s.data.toList.drop pos = toks l → pos ≤ s.size → s.size ≤ pos + f → acc.length + (picksOf l).length ≤ 100000 →
    parseFrom s f pos acc false = (acc ++ picksOf l, 0)
  | [], f, pos, acc, _, hd, hp, hf, _ => by
    have : ¬ pos < s.size := by
      intro h
      have hl : (s.data.toList.drop pos).length = 0 := by rw [hd]; rfl
      rw [List.length_drop, bsize] at hl; omega
    rw [parseFrom_end _ _ _ _ _ this]; simp [picksOf]
  | t :: l, f, pos, acc, hr, hd, hp, hf, hn => by
    have hlen : (s.data.toList.drop pos).length = (tok t ++ toks l).length := by rw [hd]; rfl
    rw [List.length_drop, bsize, List.length_append] at hlen
    have htl : 1 ≤ (tok t).length := by
      rcases t with (_ | p) | _
      · decide
      · show 1 ≤ (textP p).length
        have h := hr p (List.mem_cons_self ..)
        by_cases h1 : p.1 = 2
        · rw [(text_2 h h1).1]; simp
        · rw [(text_1 h h1).1]; simp
      · exact Nat.le_refl 1
    have hlt : pos < s.size := by omega
    have hdr : s.data.toList.drop (pos + (tok t).length) = toks l := by rw [← List.drop_drop, hd]; simp [toks]
    have ih := fun acc' hn' => parse_toks s l (f - 1) (pos + (tok t).length) acc' (fun p hp => hr p (List.mem_cons_of_mem _ hp)) hdr (by omega) (by omega) hn'
    obtain ⟨g, rfl⟩ : ∃ g, f = g + 1 := ⟨f - 1, by omega⟩
    simp only [Nat.add_sub_cancel] at ih
    rw [parseFrom, if_pos hlt]
    rcases t with (_ | p) | _
    · have e := decode_1 s pos 32 (toks l) (by rw [hd]; rfl) (by decide)
      rw [e]
      rw [if_pos (.inl rfl)]
      exact ih acc hn
    · have h := hr p (List.mem_cons_self ..)
      obtain ⟨e, h0, h1, h2, h3⟩ := decode_pick s pos h (toks l) (by rw [hd]; rfl)
      rw [e]
      dsimp only
      rw [Int.toNat_of_nonneg h0, if_neg (by omega), h3]
      have hpk : picksOf (.inl (some p) :: l) = p :: picksOf l := rfl
      rw [hpk, List.length_cons] at hn
      rw [if_neg (by simp), if_neg (by omega)]
      refine (ih (acc ++ [p]) (by simp; omega)).trans ?_
      rw [hpk]; simp
    · have e := decode_1 s pos 10 (toks l) (by rw [hd]; rfl) (by decide)
      rw [e]
      rw [if_pos (.inr rfl)]
      exact ih acc hn
theorem parse_all (l : List (Option PP ⊕ Unit)) (hr : ∀ p, .inl (some p) ∈ l → right p = true) (hn : (picksOf l).length ≤ 100000) : parseFPk ⟨(toks l).toArray⟩ = (picksOf l, 0) := by
  have := parse_toks ⟨(toks l).toArray⟩ l (ByteArray.size ⟨(toks l).toArray⟩) 0 [] hr (by simp) (Nat.zero_le _) (by omega) (by simpa using hn)
  simpa [parseFPk] using this
theorem picksOf_some (l : List PP) : picksOf (l.map fun p => .inl (some p)) = l := by
  induction l with
  | nil => rfl
  | cons p l ih => show p :: picksOf _ = _; rw [ih]
theorem toks_some (l : List PP) : toks (l.map fun p => .inl (some p)) = printL l := by
  simp only [toks, printL, List.flatMap_map]; rfl
theorem parse_printPk (l : List PP) (hr : ∀ p ∈ l, right p = true) (hn : l.length ≤ 100000) : parseFPk ⟨(printL l).toArray⟩ = (l, 0) := by
  have := parse_all (l.map fun p => .inl (some p)) (fun p hp => by simp at hp; exact hr p hp) (by rw [picksOf_some]; exact hn)
  rwa [picksOf_some, toks_some] at this
end Go.Proofs.YtjnokhaojpijhaaGreatDoor
