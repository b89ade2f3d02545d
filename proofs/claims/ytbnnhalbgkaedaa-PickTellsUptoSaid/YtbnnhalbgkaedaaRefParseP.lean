/- Layer pick: the document's way to parse, byte by byte, is the program's, rune by rune. -/
import Derived.Test.YtbnnhalbgkaedaaText2
namespace Go.Proofs.Ytbnnhalbgkaedaa
open Go.RowKit

/-- byte by byte, from place i on, behind the picks acc -/
def rParse (s : ByteArray) : Nat → Nat → List PP → List PP × Int
  | 0, _, acc => if 100000 < acc.length then ([], 3) else (acc, 0)
  | f + 1, i, acc =>
    if h : i < s.size then
      if (s[i]'h).toNat = 32 ∨ (s[i]'h).toNat = 10 then rParse s f (i + 1) acc
      else if (s[i]'h).toNat = 46 then rParse s f (i + 1) (acc ++ [(0, 0)])
      else if 97 ≤ (s[i]'h).toNat ∧ (s[i]'h).toNat ≤ 112 then rParse s f (i + 1) (acc ++ [(1, ((s[i]'h).toNat : Int) - 96)])
      else if h1 : i + 1 < s.size then
        if (s[i]'h).toNat = 206 ∧ 177 ≤ (s[i + 1]'h1).toNat ∧ (s[i + 1]'h1).toNat ≤ 191 then rParse s f (i + 2) (acc ++ [(2, ((s[i + 1]'h1).toNat : Int) - 176)])
        else if (s[i]'h).toNat = 207 ∧ (s[i + 1]'h1).toNat = 128 then rParse s f (i + 2) (acc ++ [(2, 16)])
        else ([], 2)
      else ([], 2)
    else if 100000 < acc.length then ([], 3) else (acc, 0)

theorem take_over (L : List PP) (p : PP) : (if (L.take 100000).length = 100000 then (L.take 100000, true) else (L.take 100000 ++ [p], decide (100000 < L.length))) = ((L ++ [p]).take 100000, decide (100000 < (L ++ [p]).length)) := by
  by_cases h : 100000 ≤ L.length
  · have h1 : (L.take 100000).length = 100000 := by rw [List.length_take]; omega
    rw [if_pos h1, List.take_append_of_le_length h]
    simp; omega
  · have h1 : ¬ (L.take 100000).length = 100000 := by rw [List.length_take]; omega
    rw [if_neg h1, List.take_of_length_le (by omega), List.take_of_length_le (by simp; omega)]
    simp; omega
/-- one pick more -/
theorem parse_more (s : ByteArray) (f pos : Nat) (L : List PP) (h : pos < s.size) (hb : ¬ (((Utf8.decode s pos).1 : Int) = 32 ∨ ((Utf8.decode s pos).1 : Int) = 10)) (hr : (readF (Utf8.decode s pos).1).2 = true) :
    parseFrom s (f + 1) pos (L.take 100000) (decide (100000 < L.length)) =
      parseFrom s f (pos + (Utf8.decode s pos).2) ((L ++ [(readF (Utf8.decode s pos).1).1]).take 100000) (decide (100000 < (L ++ [(readF (Utf8.decode s pos).1).1]).length)) := by
  have hT := take_over L (readF (Utf8.decode s pos).1).1
  rw [parseFrom, if_pos h, if_neg hb, if_neg (by rw [hr]; simp)]
  by_cases h5 : (L.take 100000).length = 100000
  · rw [if_pos h5] at hT ⊢
    injection hT with q1 q2
    rw [← q1, ← q2]
  · rw [if_neg h5] at hT ⊢
    injection hT with q1 q2
    rw [← q1, ← q2]
theorem rParse_eq (s : ByteArray) : ∀ (f pos : Nat) (L : List PP), s.size ≤ pos + f → parseFrom s f pos (L.take 100000) (decide (100000 < L.length)) = rParse s f pos L
  | 0, pos, L, _ => by
    simp only [parseFrom, rParse, decide_eq_true_eq]
    split
    · rfl
    · rw [List.take_of_length_le (by omega)]
  | f + 1, pos, L, hf => by
    rw [rParse]
    by_cases h : pos < s.size
    · rw [dif_pos h]
      by_cases hb : (s[pos]'h).toNat = 32 ∨ (s[pos]'h).toNat = 10
      · rw [if_pos hb, parseFrom, if_pos h, decode_ascii s pos h (by omega), if_pos (by dsimp only; omega)]
        exact rParse_eq s f (pos + 1) L (by omega)
      · rw [if_neg hb]
        by_cases h46 : (s[pos]'h).toNat = 46
        · have e := decode_ascii s pos h (by omega)
          rw [if_pos h46, parse_more s f pos L h (by rw [e]; dsimp only; omega) (by rw [e, h46]; rfl), e, h46]
          exact rParse_eq s f (pos + 1) _ (by omega)
        · rw [if_neg h46]
          by_cases h97 : 97 ≤ (s[pos]'h).toNat ∧ (s[pos]'h).toNat ≤ 112
          · have e := decode_ascii s pos h (by omega)
            have hr : readF (((s[pos]'h).toNat : Nat) : Int) = ((1, ((s[pos]'h).toNat : Int) - 96), true) := by
              unfold readF; rw [if_neg (by omega), if_pos (by omega)]
            rw [if_pos h97, parse_more s f pos L h (by rw [e]; dsimp only; omega) (by rw [e]; dsimp only; rw [hr]), e]
            dsimp only
            rw [hr]
            exact rParse_eq s f (pos + 1) _ (by omega)
          · rw [if_neg h97]
            have two : ∀ (h1 : pos + 1 < s.size) (n : Nat), (s[pos]'h).toNat / 32 = 6 → (s[pos + 1]'h1).toNat / 64 = 2 → (s[pos]'h).toNat % 32 * 64 + (s[pos + 1]'h1).toNat % 64 = n → 945 ≤ n → n < 961 →
                parseFrom s (f + 1) pos (L.take 100000) (decide (100000 < L.length)) = rParse s f (pos + 2) (L ++ [(2, (n : Int) - 944)]) := by
              intro h1 n k1 k2 k3 k4 k5
              have hd : s.data.toList.drop pos = (s[pos]'h) :: (s[pos + 1]'h1) :: s.data.toList.drop (pos + 2) := by rw [drop_cons s pos h, drop_cons s (pos + 1) h1]
              have e := decode_2 s pos _ _ _ hd k1 k2 (by omega)
              rw [k3] at e
              have hr : readF (n : Int) = ((2, (n : Int) - 944), true) := by
                unfold readF; rw [if_neg (by omega), if_neg (by omega), if_pos (by omega)]
              rw [parse_more s f pos L h (by rw [e]; dsimp only; omega) (by rw [e]; dsimp only; rw [hr]), e]
              dsimp only
              rw [hr]
              exact rParse_eq s f (pos + 2) _ (by omega)
            have bad : (∀ h1 : pos + 1 < s.size, ¬ ((s[pos]'h).toNat = 206 ∧ 177 ≤ (s[pos + 1]'h1).toNat ∧ (s[pos + 1]'h1).toNat ≤ 191) ∧ ¬ ((s[pos]'h).toNat = 207 ∧ (s[pos + 1]'h1).toNat = 128)) →
                parseFrom s (f + 1) pos (L.take 100000) (decide (100000 < L.length)) = ([], 2) := by
              intro hno
              have hnb : ¬ (((Utf8.decode s pos).1 : Int) = 32 ∨ ((Utf8.decode s pos).1 : Int) = 10) := by
                intro hh
                have := (decode_small s pos h (by omega)).1
                omega
              have hrd : (readF (Utf8.decode s pos).1).2 = false := by
                rw [← Bool.not_eq_true]
                intro hh
                rcases (readF_yes hh).1 with k | k | k
                · have := (decode_small s pos h (by omega)).1; omega
                · have := (decode_small s pos h (by omega)).1; omega
                · obtain ⟨_, h1, k1, k2⟩ := decode_two s pos h (by omega) (by omega)
                  have := hno h1
                  omega
              rw [parseFrom, if_pos h, if_neg hnb, if_pos hrd]
            by_cases h1 : pos + 1 < s.size
            · rw [dif_pos h1]
              by_cases k : (s[pos]'h).toNat = 206 ∧ 177 ≤ (s[pos + 1]'h1).toNat ∧ (s[pos + 1]'h1).toNat ≤ 191
              · have e : (((s[pos + 1]'h1).toNat + 768 : Nat) : Int) - 944 = ((s[pos + 1]'h1).toNat : Int) - 176 := by omega
                rw [if_pos k, two h1 ((s[pos + 1]'h1).toNat + 768) (by omega) (by omega) (by omega) (by omega) (by omega), e]
              · rw [if_neg k]
                by_cases k' : (s[pos]'h).toNat = 207 ∧ (s[pos + 1]'h1).toNat = 128
                · have e : ((960 : Nat) : Int) - 944 = 16 := by omega
                  rw [if_pos k', two h1 960 (by omega) (by omega) (by omega) (by omega) (by omega), e]
                · rw [if_neg k', bad fun _ => ⟨k, k'⟩]
            · rw [dif_neg h1, bad fun h2 => absurd h2 h1]
    · rw [dif_neg h, parseFrom_end s _ pos _ _ h]
      simp only [decide_eq_true_eq]
      split
      · rfl
      · rw [List.take_of_length_le (by omega)]
theorem rParse_all (s : ByteArray) : rParse s s.size 0 [] = parseF s := by
  rw [← rParse_eq s s.size 0 [] (by omega)]; rfl
end Go.Proofs.Ytbnnhalbgkaedaa
