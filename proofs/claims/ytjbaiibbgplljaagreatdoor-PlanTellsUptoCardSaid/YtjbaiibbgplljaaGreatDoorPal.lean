import Derived.Test.YtjbaiibbgplljaaGreatDoorPab
import Derived.Test.YtjbaiibbgplljaaGreatDoorPak
set_option maxRecDepth 100000
set_option maxHeartbeats 40000000
namespace Go.Proofs.YtjbaiibbgplljaaGreatDoor
open Go.RowKit
def textP (p : Int × Int) : List UInt8 := Lib.encodeRune (writeF p)
def printL (l : List (Int × Int)) : List UInt8 := l.flatMap textP
theorem textP_le (p : Int × Int) : (textP p).length ≤ 4 := by
 have h := Lib.runeCells_le (writeF p); rw [Lib.runeCells_length] at h; exact h.2
theorem printL_le (l : List (Int × Int)) : (printL l).length ≤ 4 * l.length := by
 induction l with
 | nil => simp [printL]
 | cons p l ih => have := textP_le p; simp only [printL, List.flatMap_cons, List.length_append, List.length_cons] at *; omega
theorem writeF_rng (p : Int × Int) : 0 ≤ writeF p ∧ writeF p ≤ 2000 := by
 obtain ⟨k, n⟩ := p; unfold writeF; split
 · omega
 · rename_i h
   have h' : (!right (k, n)) = false := by simpa using h
   dsimp only; split
   · have := right_1 h' (by simpa using ‹k = 1›); omega
   · split
     · have := right_2 h' (by simpa using ‹k = 2›); omega
     · omega
theorem rowF_below {w w' : World} {B : Nat} {e : TypeId} {v : Value} {n : Nat} {xs : List Value} (h : w.ownsRowF B e 1 v n xs) (hb : Below w.heap.size w w') : w'.ownsRowF B e 1 v n xs := by
 refine ⟨h.1, ?_⟩; rcases h.2 with h0 | ⟨g, cap, cur, fz, hv, hg, hh, hr⟩
 · exact .inl h0
 · refine .inr ⟨g, cap, cur, fz, hv, hg, (hb.block g ?_).trans hh, hr⟩
   rcases Nat.lt_or_ge g w.heap.size with hlt | hge
   · exact hlt
   · rw [Array.getElem?_eq_none hge] at hh; cases hh
theorem builderAt_below {T e : TypeId} {B b : Nat} {p : Value} {bs : List Value} {w w' : World} (h : Lib.BuilderAtF T e B b p bs w) (hb : Below w.heap.size w w') : Lib.BuilderAtF T e B b p bs w' := by
 have hlt := h.lt; obtain ⟨h1, v, h2, h3, h4⟩ := h; exact ⟨h1, v, (hb.block _ hlt).trans h2, rowF_below h3 hb, h4⟩
theorem builder_belowPk {T e : TypeId} {B b : Nat} {bs : List Value} {w w' : World} (h : Lib.IsBuilderF T e B b bs w) (hb : Below w.heap.size w w') : Lib.IsBuilderF T e B b bs w' :=
 h.imp (builderAt_below · hb) (builderAt_below · hb)
theorem Print_anyPk (v : Value) (l : List (Int × Int)) (w : World) (hl : Picks w v l) (hlen : l.length ≤ 8796093022208) :
 Calls Tryz.prog 102 #[v] w fun e w' => e = .returned (.string ⟨(printL l).toArray⟩) ∧ Below w.heap.size w w' := by
 have hl' := hl; obtain ⟨A, c, rfl, h1, h2, -⟩ := hl'; unfold maxLen at h2; have HL := hide hl; clear hl; go_enter Tryz.func102, Tryz.ntmps102
 go_wp2; go_loopw [8] (fun i wr => ∃ k : Nat, k ≤ l.length ∧ i = .int .i64 k ∧ Below w.heap.size w wr ∧ Lib.IsBuilderF 153 5 w.heap.size w.heap.size (Lib.byteCells (printL (l.take k))) wr) (fun i _ => l.length - (intOf i).toNat)
 case atStart => exact ⟨0, Nat.zero_le _, rfl, (Below.refl _ _).alloc (Nat.le_refl _) _, Lib.IsBuilderF.of (Lib.fresh_isBuilder _ _ w)⟩
 case round =>
  obtain ⟨k, hk, rfl, hb, hI⟩ := hrel; by_cases hlt : k < l.length
  · obtain ⟨b, off, rfl, hbl, c0, c1⟩ := picks_at (HL.out.below hb) hlt
    have hsn : printL (l.take (k + 1)) = printL (l.take k) ++ Lib.encodeRune (writeF (l[k].1, l[k].2)) := by
     rw [List.take_succ_eq_append_getElem hlt, printL, List.flatMap_append]; simp [printL, textP]
    have HS := hide hsn; have hpl := printL_le (l.take k); have htl : (l.take k).length ≤ l.length := List.length_take_le' _ _; clear hsn; have hr := writeF_rng (l[k].1, l[k].2); have hsz := hb.size; go_wp2_with (first
     | (go_at_call 148; refine (write_any _ _ _).mono ?_; rintro e w' ⟨rfl, hb'⟩; have hbW := bcall1 (Below.refl wr.heap.size wr) hb')
     | (go_at_call 147; refine (Builder_WriteRune_k w.heap.size w.heap.size _ _ (by omega) (by omega) _ (builder_belowPk hI hbW) (by rw [Lib.byteCells_length]; omega) (by have := hbW.size; omega)).mono ?_; rintro e w2 ⟨rfl, h1, b1, k1⟩))
    go_roundw
    case rel => exact ⟨k + 1, by omega, by go_num, (hb.trans (hbW.mono hsz)).trans b1, by rw [HS.out, Lib.byteCells_append, Lib.byteCells_encodeRune]; exact .inr h1⟩
    case measure => simp [intOf]; omega
  · go_wp2_with (go_at_call 103; refine (Builder_String_k w.heap.size w.heap.size _ _ hI hb.size).mono ?_; rintro e w2 ⟨rfl, _, b1, _⟩)
    go_ret
    refine ⟨?_, hb.trans b1⟩; rw [List.take_of_length_le (by omega)]; rfl
theorem bget (s : ByteArray) (i : Nat) (b : UInt8) (h : s.data.toList[i]? = some b) : s.get! i = b := by
 have h' : s.data[i]? = some b := by simpa using h
 show s.data[i]! = b
 rw [getElem!_def, h']
theorem bsize (s : ByteArray) : s.data.toList.length = s.size := by rw [Array.length_toList]; rfl
theorem drop_get {α : Type} {l r : List α} {n : Nat} (h : l.drop n = r) (k : Nat) : l[n + k]? = r[k]? := by rw [← h, List.getElem?_drop]
theorem decode_2 (s : ByteArray) (pos : Nat) (b c : UInt8) (r : List UInt8) (h : s.data.toList.drop pos = b :: c :: r) (hb : b.toNat / 32 = 6) (hc : c.toNat / 64 = 2) (hv : 128 ≤ b.toNat % 32 * 64 + c.toNat % 64) :
 Utf8.decode s pos = (b.toNat % 32 * 64 + c.toNat % 64, 2) := by
 have g0 := bget s (pos + 0) b (by rw [drop_get h]; rfl); have g1 := bget s (pos + 1) c (by rw [drop_get h]; rfl); have hsz : pos + 1 < s.size := by
  have h1 : s.data.toList[pos + 1]? = some c := by rw [drop_get h]; rfl
  have := (List.getElem?_eq_some_iff.1 h1).1; rw [bsize] at this; exact this
 have hn : ¬ b.toNat < 128 := by omega
 have g2 : s.get! pos = b := g0; simp [Utf8.decode, g2, g1, hn, hb, hc, hsz, hv]
theorem text_1 {p : PP} (h : right p = true) (h1 : p.1 ≠ 2) : textP p = [(writeF p).toNat.toUInt8] ∧ ((writeF p) = 46 ∨ (97 ≤ writeF p ∧ writeF p < 113)) ∧ readFPk (writeF p) = (p, true) := by
 obtain ⟨a, b⟩ := p; simp only [right, Bool.or_eq_true, Bool.and_eq_true, beq_iff_eq, decide_eq_true_eq] at h; dsimp only at h1; have hr : right (a, b) = true := by simp only [right, Bool.or_eq_true, Bool.and_eq_true, beq_iff_eq, decide_eq_true_eq]; exact h
 rcases h with ⟨rfl, rfl⟩ | ⟨⟨h2 | h2, h3⟩, h4⟩
 · exact ⟨rfl, .inl rfl, rfl⟩
 · subst h2
   have hw : writeF (1, b) = b + 96 := by simp [writeF, hr]
   refine ⟨?_, by omega, ?_⟩
   · unfold textP Lib.encodeRune; rw [Lib.encodeRuneZ_one (by omega) (by omega)]; rfl
   · rw [hw]; unfold readFPk; rw [if_neg (by omega), if_pos (by omega)]; simp
 · exact absurd h2 h1
theorem text_2 {p : PP} (h : right p = true) (h1 : p.1 = 2) : textP p = [(192 + writeF p / 64).toNat.toUInt8, (128 + writeF p % 64).toNat.toUInt8] ∧ 945 ≤ writeF p ∧ writeF p < 961 ∧ readFPk (writeF p) = (p, true) := by
 obtain ⟨a, b⟩ := p; dsimp only at h1; subst h1; have hr := h; simp only [right, Bool.or_eq_true, Bool.and_eq_true, beq_iff_eq, decide_eq_true_eq] at h; have hw : writeF (2, b) = b + 944 := by simp [writeF, hr]
 have hb : 1 ≤ b ∧ b ≤ 16 := by omega
 refine ⟨?_, by omega, by omega, ?_⟩
 · unfold textP Lib.encodeRune; rw [Lib.encodeRuneZ_two (by omega) (by omega)]; rfl
 · rw [hw]; unfold readFPk; rw [if_neg (by omega), if_neg (by omega), if_pos (by omega)]; simp
theorem drop_cons (s : ByteArray) (pos : Nat) (h : pos < s.size) : s.data.toList.drop pos = (s[pos]'h) :: s.data.toList.drop (pos + 1) := by
 have hl : pos < s.data.toList.length := by rw [bsize]; exact h
 rw [List.drop_eq_getElem_cons hl]; rfl
theorem decode_small (s : ByteArray) (pos : Nat) (h : pos < s.size) (hr : (Utf8.decode s pos).1 < 128) : (s[pos]'h).toNat = (Utf8.decode s pos).1 ∧ (Utf8.decode s pos).2 = 1 := by
 by_cases ha : (s[pos]'h).toNat < 128
 · rw [decode_ascii s pos h ha]; exact ⟨rfl, rfl⟩
 · have := (decode_high s pos h (by omega)).1; omega
theorem decode_two (s : ByteArray) (pos : Nat) (h : pos < s.size) (hr : 128 ≤ (Utf8.decode s pos).1) (hr2 : (Utf8.decode s pos).1 < 2048) :
 (Utf8.decode s pos).2 = 2 ∧ ∃ h1 : pos + 1 < s.size, (s[pos]'h).toNat = 192 + (Utf8.decode s pos).1 / 64 ∧ (s[pos + 1]'h1).toNat = 128 + (Utf8.decode s pos).1 % 64 := by
 have g0 : s.get! pos = s[pos]'h := get_at s pos h; have hb0 := (s[pos]'h).toNat_lt; by_cases h1 : pos + 1 < s.size
 · have g1 : s.get! (pos + 1) = s[pos + 1]'h1 := get_at s (pos + 1) h1
   have hb1 := (s[pos + 1]'h1).toNat_lt; revert hr hr2
   simp only [Utf8.decode, Nat.add_zero, g0, g1]; repeat' split
   all_goals simp_all [Utf8.runeError]
   all_goals omega
 · exfalso
   revert hr hr2
   simp only [Utf8.decode, Nat.add_zero, g0]; repeat' split
   all_goals simp_all [Utf8.runeError]
   all_goals omega
theorem readF_yes {r : Int} (h : (readFPk r).2 = true) : (r = 46 ∨ (97 ≤ r ∧ r < 113) ∨ (945 ≤ r ∧ r < 961)) ∧ right (readFPk r).1 = true ∧ writeF (readFPk r).1 = r := by
 unfold readFPk at *; split at h
 · subst_vars; exact ⟨.inl rfl, rfl, rfl⟩
 · split at h
   · rename_i h1
     have hr : right (1, r - 96) = true := by simp [right]; omega
     rw [if_neg (by omega), if_pos h1]; exact ⟨.inr (.inl h1), hr, by simp [writeF, hr]⟩
   · split at h
     · rename_i h0 h1 h2
       have hr : right (2, r - 944) = true := by simp [right]; omega
       rw [if_neg h0, if_neg h1, if_pos h2]; exact ⟨.inr (.inr h2), hr, by simp [writeF, hr]⟩
     · cases h
def rParse (s : ByteArray) : Nat → Nat → List PP → List PP × Int
 | 0, _, acc => if 100000 < acc.length then ([], 3) else (acc, 0)
 | f + 1, i, acc =>
   if h : i < s.size then
    if (s[i]'h).toNat = 32 ∨ (s[i]'h).toNat = 10 then rParse s f (i + 1) acc
    else if (s[i]'h).toNat = 46 then rParse s f (i + 1) (acc ++ [(0, 0)])
    else if 97 ≤ (s[i]'h).toNat ∧ (s[i]'h).toNat ≤ 112 then rParse s f (i + 1) (acc ++ [(1, ((s[i]'h).toNat : Int) - 96)])
    else if h1 : i + 1 < s.size then
     if (s[i]'h).toNat = 206 ∧ 177 ≤ (s[i + 1]'h1).toNat ∧ (s[i + 1]'h1).toNat ≤ 191 then rParse s f (i + 2) (acc ++ [(2, ((s[i + 1]'h1).toNat : Int) - 176)])
     else if (s[i]'h).toNat = 207 ∧ (s[i + 1]'h1).toNat = 128 then rParse s f (i + 2) (acc ++ [(2, 16)])
     else ([], 2)
    else ([], 2)
   else if 100000 < acc.length then ([], 3) else (acc, 0)
theorem take_over (L : List PP) (p : PP) : (if (L.take 100000).length = 100000 then (L.take 100000, true) else (L.take 100000 ++ [p], decide (100000 < L.length))) = ((L ++ [p]).take 100000, decide (100000 < (L ++ [p]).length)) := by
 by_cases h : 100000 ≤ L.length
 · have h1 : (L.take 100000).length = 100000 := by rw [List.length_take]; omega
   rw [if_pos h1, List.take_append_of_le_length h]; simp; omega
 · have h1 : ¬ (L.take 100000).length = 100000 := by rw [List.length_take]; omega
   rw [if_neg h1, List.take_of_length_le (by omega), List.take_of_length_le (by simp; omega)]; simp; omega
theorem parse_more (s : ByteArray) (f pos : Nat) (L : List PP) (h : pos < s.size) (hb : ¬ (((Utf8.decode s pos).1 : Int) = 32 ∨ ((Utf8.decode s pos).1 : Int) = 10)) (hr : (readFPk (Utf8.decode s pos).1).2 = true) :
 parseFrom s (f + 1) pos (L.take 100000) (decide (100000 < L.length)) =
  parseFrom s f (pos + (Utf8.decode s pos).2) ((L ++ [(readFPk (Utf8.decode s pos).1).1]).take 100000) (decide (100000 < (L ++ [(readFPk (Utf8.decode s pos).1).1]).length)) := by
 have hT := take_over L (readFPk (Utf8.decode s pos).1).1; rw [parseFrom, if_pos h, if_neg hb, if_neg (by rw [hr]; simp)]; by_cases h5 : (L.take 100000).length = 100000
 · rw [if_pos h5] at hT ⊢
   injection hT with q1 q2; rw [← q1, ← q2]
 · rw [if_neg h5] at hT ⊢
   injection hT with q1 q2; rw [← q1, ← q2]
theorem rParse_eq (s : ByteArray) : ∀ (f pos : Nat) (L : List PP), s.size ≤ pos + f → parseFrom s f pos (L.take 100000) (decide (100000 < L.length)) = rParse s f pos L
 | 0, pos, L, _ => by
   simp only [parseFrom, rParse, decide_eq_true_eq]; split
   · rfl
   · rw [List.take_of_length_le (by omega)]
 | f + 1, pos, L, hf => by
   rw [rParse]; by_cases h : pos < s.size
   · rw [dif_pos h]
     by_cases hb : (s[pos]'h).toNat = 32 ∨ (s[pos]'h).toNat = 10
     · rw [if_pos hb, parseFrom, if_pos h, decode_ascii s pos h (by omega), if_pos (by dsimp only; omega)]
       exact rParse_eq s f (pos + 1) L (by omega)
     · rw [if_neg hb]
       by_cases h46 : (s[pos]'h).toNat = 46
       · have e := decode_ascii s pos h (by omega)
         rw [if_pos h46, parse_more s f pos L h (by rw [e]; dsimp only; omega) (by rw [e, h46]; rfl), e, h46]; exact rParse_eq s f (pos + 1) _ (by omega)
       · rw [if_neg h46]
         by_cases h97 : 97 ≤ (s[pos]'h).toNat ∧ (s[pos]'h).toNat ≤ 112
         · have e := decode_ascii s pos h (by omega)
           have hr : readFPk (((s[pos]'h).toNat : Nat) : Int) = ((1, ((s[pos]'h).toNat : Int) - 96), true) := by
            unfold readFPk; rw [if_neg (by omega), if_pos (by omega)]
           rw [if_pos h97, parse_more s f pos L h (by rw [e]; dsimp only; omega) (by rw [e]; dsimp only; rw [hr]), e]; dsimp only; rw [hr]; exact rParse_eq s f (pos + 1) _ (by omega)
         · rw [if_neg h97]
           have two : ∀ (h1 : pos + 1 < s.size) (n : Nat), (s[pos]'h).toNat / 32 = 6 → (s[pos + 1]'h1).toNat / 64 = 2 → (s[pos]'h).toNat % 32 * 64 + (s[pos + 1]'h1).toNat % 64 = n → 945 ≤ n → n < 961 →
            parseFrom s (f + 1) pos (L.take 100000) (decide (100000 < L.length)) = rParse s f (pos + 2) (L ++ [(2, (n : Int) - 944)]) := by
            intro h1 n k1 k2 k3 k4 k5; have hd : s.data.toList.drop pos = (s[pos]'h) :: (s[pos + 1]'h1) :: s.data.toList.drop (pos + 2) := by rw [drop_cons s pos h, drop_cons s (pos + 1) h1]
            have e := decode_2 s pos _ _ _ hd k1 k2 (by omega); rw [k3] at e; have hr : readFPk (n : Int) = ((2, (n : Int) - 944), true) := by
             unfold readFPk; rw [if_neg (by omega), if_neg (by omega), if_pos (by omega)]
            rw [parse_more s f pos L h (by rw [e]; dsimp only; omega) (by rw [e]; dsimp only; rw [hr]), e]; dsimp only; rw [hr]; exact rParse_eq s f (pos + 2) _ (by omega)
           have bad : (∀ h1 : pos + 1 < s.size, ¬ ((s[pos]'h).toNat = 206 ∧ 177 ≤ (s[pos + 1]'h1).toNat ∧ (s[pos + 1]'h1).toNat ≤ 191) ∧ ¬ ((s[pos]'h).toNat = 207 ∧ (s[pos + 1]'h1).toNat = 128)) →
            parseFrom s (f + 1) pos (L.take 100000) (decide (100000 < L.length)) = ([], 2) := by
            intro hno; have hnb : ¬ (((Utf8.decode s pos).1 : Int) = 32 ∨ ((Utf8.decode s pos).1 : Int) = 10) := by
             intro hh; have := (decode_small s pos h (by omega)).1; omega
            have hrd : (readFPk (Utf8.decode s pos).1).2 = false := by
             rw [← Bool.not_eq_true]; intro hh; rcases (readF_yes hh).1 with k | k | k
             · have := (decode_small s pos h (by omega)).1; omega
             · have := (decode_small s pos h (by omega)).1; omega
             · obtain ⟨_, h1, k1, k2⟩ := decode_two s pos h (by omega) (by omega)
               have := hno h1; omega
            rw [parseFrom, if_pos h, if_neg hnb, if_pos hrd]
           by_cases h1 : pos + 1 < s.size
           · rw [dif_pos h1]
             by_cases k : (s[pos]'h).toNat = 206 ∧ 177 ≤ (s[pos + 1]'h1).toNat ∧ (s[pos + 1]'h1).toNat ≤ 191
             · have e : (((s[pos + 1]'h1).toNat + 768 : Nat) : Int) - 944 = ((s[pos + 1]'h1).toNat : Int) - 176 := by omega
               rw [if_pos k, two h1 ((s[pos + 1]'h1).toNat + 768) (by omega) (by omega) (by omega) (by omega) (by omega), e]
             · rw [if_neg k]
               by_cases k' : (s[pos]'h).toNat = 207 ∧ (s[pos + 1]'h1).toNat = 128
               · have e : ((960 : Nat) : Int) - 944 = 16 := by omega
                 rw [if_pos k', two h1 960 (by omega) (by omega) (by omega) (by omega) (by omega), e]
               · rw [if_neg k', bad fun _ => ⟨k, k'⟩]
           · rw [dif_neg h1, bad fun h2 => absurd h2 h1]
   · rw [dif_neg h, parseFrom_end s _ pos _ _ h]
     simp only [decide_eq_true_eq]; split
     · rfl
     · rw [List.take_of_length_le (by omega)]
theorem rParse_all (s : ByteArray) : rParse s s.size 0 [] = parseFPk s := by
 rw [← rParse_eq s s.size 0 [] (by omega)]; rfl
