/- Layer pick: what is parsed, printed, is the text without its blanks. -/
import Derived.Test.YtbnnhalbgkaedaaText
namespace Go.Proofs.Ytbnnhalbgkaedaa
open Go.RowKit

def nb (b : UInt8) : Bool := b != 32 && b != 10
theorem drop_cons (s : ByteArray) (pos : Nat) (h : pos < s.size) : s.data.toList.drop pos = (s[pos]'h) :: s.data.toList.drop (pos + 1) := by
  have hl : pos < s.data.toList.length := by rw [bsize]; exact h
  rw [List.drop_eq_getElem_cons hl]; rfl
/-- decoding, backwards: a rune of one byte -/
theorem decode_small (s : ByteArray) (pos : Nat) (h : pos < s.size) (hr : (Utf8.decode s pos).1 < 128) : (s[pos]'h).toNat = (Utf8.decode s pos).1 ∧ (Utf8.decode s pos).2 = 1 := by
  by_cases ha : (s[pos]'h).toNat < 128
  · rw [decode_ascii s pos h ha]; exact ⟨rfl, rfl⟩
  · have := (decode_high s pos h (by omega)).1; omega
theorem decode_two (s : ByteArray) (pos : Nat) (h : pos < s.size) (hr : 128 ≤ (Utf8.decode s pos).1) (hr2 : (Utf8.decode s pos).1 < 2048) :
    (Utf8.decode s pos).2 = 2 ∧ ∃ h1 : pos + 1 < s.size, (s[pos]'h).toNat = 192 + (Utf8.decode s pos).1 / 64 ∧ (s[pos + 1]'h1).toNat = 128 + (Utf8.decode s pos).1 % 64 := by
  have g0 : s.get! pos = s[pos]'h := get_at s pos h
  have hb0 := (s[pos]'h).toNat_lt
  by_cases h1 : pos + 1 < s.size
  · have g1 : s.get! (pos + 1) = s[pos + 1]'h1 := get_at s (pos + 1) h1
    have hb1 := (s[pos + 1]'h1).toNat_lt
    revert hr hr2
    simp only [Utf8.decode, Nat.add_zero, g0, g1]
    repeat' split
    all_goals simp_all [Utf8.runeError]
    all_goals omega
  · exfalso
    revert hr hr2
    simp only [Utf8.decode, Nat.add_zero, g0]
    repeat' split
    all_goals simp_all [Utf8.runeError]
    all_goals omega
theorem readF_yes {r : Int} (h : (readF r).2 = true) : (r = 46 ∨ (97 ≤ r ∧ r < 113) ∨ (945 ≤ r ∧ r < 961)) ∧ right (readF r).1 = true ∧ writeF (readF r).1 = r := by
  unfold readF at *
  split at h
  · subst_vars; exact ⟨.inl rfl, rfl, rfl⟩
  · split at h
    · rename_i h1
      have hr : right (1, r - 96) = true := by simp [right]; omega
      rw [if_neg (by omega), if_pos h1]
      exact ⟨.inr (.inl h1), hr, by simp [writeF, hr]⟩
    · split at h
      · rename_i h0 h1 h2
        have hr : right (2, r - 944) = true := by simp [right]; omega
        rw [if_neg h0, if_neg h1, if_pos h2]
        exact ⟨.inr (.inr h2), hr, by simp [writeF, hr]⟩
      · cases h
theorem u8_of {b : UInt8} {n : Nat} (h : b.toNat = n) : b = n.toUInt8 := by
  apply UInt8.toNat_inj.1
  have := b.toNat_lt
  simp [Nat.toUInt8]; omega
/-- one step of the text: a blank, or a pick's text -/
theorem step_blank (s : ByteArray) (pos : Nat) (h : pos < s.size) (hb : ((Utf8.decode s pos).1 : Int) = 32 ∨ ((Utf8.decode s pos).1 : Int) = 10) : (s.data.toList.drop pos).filter nb = (s.data.toList.drop (pos + (Utf8.decode s pos).2)).filter nb := by
  obtain ⟨h1, h2⟩ := decode_small s pos h (by omega)
  rw [h2, drop_cons s pos h]
  have hn : nb (s[pos]'h) = false := by
    rcases hb with hb | hb
    · have := u8_of (h1.trans (show (Utf8.decode s pos).1 = 32 by omega)); rw [this]; rfl
    · have := u8_of (h1.trans (show (Utf8.decode s pos).1 = 10 by omega)); rw [this]; rfl
  rw [List.filter_cons, hn]; rfl
theorem nb_of {b : UInt8} (h : b.toNat ≠ 32) (h' : b.toNat ≠ 10) : nb b = true := by
  unfold nb
  have h1 : b ≠ 32 := fun e => h (by rw [e]; rfl)
  have h2 : b ≠ 10 := fun e => h' (by rw [e]; rfl)
  simp [h1, h2]
theorem step_pick (s : ByteArray) (pos : Nat) (h : pos < s.size) (hr : (readF (Utf8.decode s pos).1).2 = true) : (s.data.toList.drop pos).filter nb = textP (readF (Utf8.decode s pos).1).1 ++ (s.data.toList.drop (pos + (Utf8.decode s pos).2)).filter nb := by
  obtain ⟨h1, h2, h3⟩ := readF_yes hr
  unfold textP Lib.encodeRune
  rw [h3]
  by_cases hs : (Utf8.decode s pos).1 < 128
  · obtain ⟨k1, k2⟩ := decode_small s pos h hs
    rw [Lib.encodeRuneZ_one (by omega) (by omega), k2, drop_cons s pos h, List.filter_cons, nb_of (by omega) (by omega), if_pos rfl]
    simp only [List.map_cons, List.map_nil, List.cons_append, List.nil_append, Int.toNat_natCast]
    rw [← u8_of k1]
  · obtain ⟨k2, h', k3, k4⟩ := decode_two s pos h (by omega) (by omega)
    rw [Lib.encodeRuneZ_two (by omega) (by omega), k2, drop_cons s pos h, drop_cons s (pos + 1) h', List.filter_cons, nb_of (by omega) (by omega), if_pos rfl, List.filter_cons, nb_of (by omega) (by omega), if_pos rfl]
    simp only [List.map_cons, List.map_nil, List.cons_append, List.nil_append]
    rw [← u8_of (k3.trans (by omega : _ = (192 + ((Utf8.decode s pos).1 : Int) / 64).toNat)), ← u8_of (k4.trans (by omega : _ = (128 + ((Utf8.decode s pos).1 : Int) % 64).toNat))]
theorem parse_text (s : ByteArray) : ∀ (f pos : Nat) (acc : List PP) (over : Bool), s.size ≤ pos + f → acc.length ≤ 100000 → (∀ p ∈ acc, right p = true) →
    ((parseFrom s f pos acc over).2 ≠ 0 → (parseFrom s f pos acc over).1 = [] ∧ ((parseFrom s f pos acc over).2 = 2 ∨ (parseFrom s f pos acc over).2 = 3)) ∧
    ((parseFrom s f pos acc over).2 = 0 → over = false ∧ printL (parseFrom s f pos acc over).1 = printL acc ++ (s.data.toList.drop pos).filter nb ∧ (parseFrom s f pos acc over).1.length ≤ 100000 ∧ ∀ p ∈ (parseFrom s f pos acc over).1, right p = true)
  | 0, pos, acc, over, hf, hn, hr => by
    have hd : s.data.toList.drop pos = [] := List.drop_eq_nil_of_le (by rw [bsize]; omega)
    rw [hd]
    cases over <;> simp [parseFrom, hn]; exact fun a b h => hr (a, b) h
  | f + 1, pos, acc, over, hf, hn, hr => by
    rw [parseFrom]
    by_cases hp : pos < s.size
    · rw [if_pos hp]
      have hw := width_pos s pos hp
      by_cases hb : ((Utf8.decode s pos).1 : Int) = 32 ∨ ((Utf8.decode s pos).1 : Int) = 10
      · rw [if_pos hb, step_blank s pos hp hb]
        exact parse_text s f _ acc over (by omega) hn hr
      · rw [if_neg hb]
        by_cases hk : (readF (Utf8.decode s pos).1).2 = false
        · rw [if_pos hk]; simp
        · rw [if_neg hk]
          have hk' : (readF (Utf8.decode s pos).1).2 = true := by simpa using hk
          by_cases h5 : acc.length = 100000
          · rw [if_pos h5]
            have ih := parse_text s f (pos + (Utf8.decode s pos).2) acc true (by omega) hn hr
            exact ⟨ih.1, fun h => absurd (ih.2 h).1 (by simp)⟩
          · rw [if_neg h5]
            have ih := parse_text s f (pos + (Utf8.decode s pos).2) (acc ++ [(readF (Utf8.decode s pos).1).1]) over (by omega) (by simp; omega) (by
              intro p hp; rw [List.mem_append, List.mem_singleton] at hp
              rcases hp with hp | rfl
              · exact hr p hp
              · exact (readF_yes hk').2.1)
            refine ⟨ih.1, fun h => ?_⟩
            obtain ⟨i1, i2, i3, i4⟩ := ih.2 h
            refine ⟨i1, ?_, i3, i4⟩
            rw [i2, step_pick s pos hp hk']
            simp [printL]
    · rw [if_neg hp]
      have hd : s.data.toList.drop pos = [] := List.drop_eq_nil_of_le (by rw [bsize]; omega)
      rw [hd]
      cases over <;> simp [hn]; exact fun a b h => hr (a, b) h
theorem right_there {p : PP} (h : right p = true) : there p 16 16 = true := by
  obtain ⟨a, b⟩ := p
  have h' := h
  simp only [right, Bool.or_eq_true, Bool.and_eq_true, beq_iff_eq, decide_eq_true_eq] at h'
  simp only [there, h, Bool.true_and, Bool.and_eq_true, Bool.or_eq_true, bne_iff_ne, decide_eq_true_eq]
  omega
end Go.Proofs.Ytbnnhalbgkaedaa
