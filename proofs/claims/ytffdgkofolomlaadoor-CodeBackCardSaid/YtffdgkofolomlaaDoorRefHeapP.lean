/- Layer heap: the document's own way to read a text, as plain functions; it reads what the program reads. -/
import Derived.Test.YtffdgkofolomlaaDoorHeapQ
namespace Go.Proofs.YtffdgkofolomlaaDoor

/-- the pieces between a byte, 'cur' being what of the first one is read -/
def cutG (c : UInt8) : B8 → B8 → List B8
  | cur, [] => [cur]
  | cur, b :: l => if b = c then cur :: cutG c [] l else cutG c (cur ++ [b]) l
def valD : Int → B8 → Int
  | n, [] => n
  | n, b :: l => valD (n * 10 + ((b.toNat : Int) - 48)) l
def dgt (b : UInt8) : Bool := decide (48 ≤ b.toNat) && decide (b.toNat ≤ 57)
def numN (l : B8) : Int :=
  if l.length < 1 ∨ 7 < l.length then -1 else
    if l.all dgt then (if 1000000 < valD 0 l ∨ Go.Lib.decDigits (valD 0 l).toNat ≠ l then -1 else valD 0 l) else -1
def rowN (q : B8) : List Int := (cutG 44 [] q).map numN
def headN (t : B8) : Int := numN ((cutG 124 [] t).headD [])
def rowsN (t : B8) : Rws := ((cutG 124 [] t).drop 1).map rowN

theorem cutG_ne (c : UInt8) : ∀ (l cur : B8), cutG c cur l ≠ []
  | [], _ => by simp [cutG]
  | b :: l, cur => by
    unfold cutG
    split
    · simp
    · exact cutG_ne c l _
theorem cutG_len (c : UInt8) : ∀ (l cur : B8), (cutG c cur l).length ≤ l.length + 1
  | [], _ => by simp [cutG]
  | b :: l, cur => by
    unfold cutG
    split
    · have := cutG_len c l []; simp; omega
    · have := cutG_len c l (cur ++ [b]); simp; omega
theorem cutG_size (c : UInt8) : ∀ (l cur : B8), ∀ p ∈ cutG c cur l, p.length ≤ cur.length + l.length
  | [], cur, p, h => by simp [cutG] at h; subst h; simp
  | b :: l, cur, p, h => by
    unfold cutG at h
    split at h
    · rcases List.mem_cons.1 h with rfl | h
      · simp
      · have := cutG_size c l [] p h; simp at this ⊢; omega
    · have := cutG_size c l _ p h; simp at this ⊢; omega
theorem cutG_pre (c : UInt8) : ∀ (a cur l : B8), (∀ b ∈ a, b ≠ c) → cutG c cur (a ++ l) = cutG c (cur ++ a) l
  | [], cur, l, _ => by simp
  | b :: a, cur, l, h => by
    rw [List.cons_append]
    show (if b = c then _ else _) = _
    rw [if_neg (h b (by simp)), cutG_pre c a _ l (fun x hx => h x (by simp [hx]))]
    simp
theorem cutG_hit (c : UInt8) (cur l : B8) : cutG c cur (c :: l) = cur :: cutG c [] l := by
  show (if c = c then _ else _) = _
  rw [if_pos rfl]
theorem dg_num : ∀ n : Fin 65, ((dg n.val).length < 1 ∨ 7 < (dg n.val).length) = false ∧ (dg n.val).all dgt = true ∧ valD 0 (dg n.val) = (n.val : Int) ∧ ((dg n.val).all fun b => b != 124 && b != 44) = true := by decide +kernel
theorem num_dec {v : Int} (h0 : 0 ≤ v) (h1 : v ≤ 64) : numN (dec v) = v ∧ ∀ b ∈ dec v, b ≠ 124 ∧ b ≠ 44 := by
  obtain ⟨a1, a2, a3, a4⟩ := dg_num ⟨v.toNat, by omega⟩
  have e : dec v = dg v.toNat := dec_dg (by omega)
  dsimp only at a1 a2 a3 a4
  have hv : ((v.toNat : Nat) : Int) = v := by omega
  constructor
  · unfold numN
    rw [e, if_neg (by rw [a1]; simp), if_pos a2, a3, hv, if_neg]
    rintro (h | h)
    · omega
    · exact h (dec_dg (by omega))
  · rw [e]
    intro b hb
    have := List.all_eq_true.1 a4 b hb
    simpa using this
/-- a row's text, behind its mark -/
def rowT : List Int → B8
  | [] => []
  | v :: r => dec v ++ slotsT 1 r
def Okv (r : List Int) : Prop := ∀ v ∈ r, 0 ≤ v ∧ v ≤ (64 : Int)
theorem slots_no : ∀ (r : List Int) (s : Nat), Okv r → ∀ b ∈ slotsT (s + 1) r, b ≠ 124
  | [], _, _, b, h => by simp [slotsT] at h
  | v :: r, s, hr, b, h => by
    have hv := hr v (by simp)
    simp only [slotsT, List.cons_append, List.mem_cons, List.mem_append] at h
    rcases h with rfl | h | h
    · simp [aheadF]
    · exact ((num_dec hv.1 hv.2).2 b h).1
    · exact slots_no r (s + 1) (fun x hx => hr x (by simp [hx])) b h
theorem rowT_no {r : List Int} (h : Okv r) : ∀ b ∈ rowT r, b ≠ 124 := by
  cases r with
  | nil => intro b hb; simp [rowT] at hb
  | cons v r =>
    intro b hb
    have hv := h v (by simp)
    rcases List.mem_append.1 hb with hb | hb
    · exact ((num_dec hv.1 hv.2).2 b hb).1
    · exact slots_no r 0 (fun x hx => h x (by simp [hx])) b hb
theorem slots_row {r : List Int} (h : r ≠ []) : slotsT 0 r = 124 :: rowT r := by
  cases r with
  | nil => exact absurd rfl h
  | cons v r => rfl
theorem cut_rows : ∀ (ls : Rws) (cur : B8), (∀ r ∈ ls, r ≠ [] ∧ Okv r) → cutG 124 cur (ls.flatMap (slotsT 0)) = cur :: ls.map rowT
  | [], cur, _ => rfl
  | r :: ls, cur, h => by
    have hr := h r (by simp)
    rw [List.flatMap_cons, slots_row hr.1, List.cons_append, cutG_hit, cutG_pre 124 _ _ _ (rowT_no hr.2), List.nil_append, cut_rows ls _ (fun x hx => h x (by simp [hx]))]
    rfl
theorem cut_slots : ∀ (r : List Int) (s : Nat) (cur : B8), Okv r → cutG 44 cur (slotsT (s + 1) r) = cur :: r.map dec
  | [], _, _, _ => rfl
  | v :: r, s, cur, h => by
    have hv := h v (by simp)
    have e : slotsT (s + 1) (v :: r) = 44 :: (dec v ++ slotsT (s + 2) r) := by simp [slotsT, aheadF]
    rw [e, cutG_hit, cutG_pre 44 _ _ _ (fun b hb => ((num_dec hv.1 hv.2).2 b hb).2), List.nil_append, cut_slots r (s + 1) _ (fun x hx => h x (by simp [hx]))]
    rfl
theorem row_num {r : List Int} (hr : Okv r) : (r.map dec).map numN = r := by
  rw [List.map_map]
  conv => rhs; rw [← List.map_id r]
  refine List.map_congr_left fun v hv => ?_
  have := hr v hv
  exact (num_dec this.1 this.2).1
theorem row_read {r : List Int} (hne : r ≠ []) (hr : Okv r) : rowN (rowT r) = r := by
  cases r with
  | nil => exact absurd rfl hne
  | cons v r =>
    have hv := hr v (by simp)
    unfold rowN
    rw [rowT, cutG_pre 44 _ _ _ (fun b hb => ((num_dec hv.1 hv.2).2 b hb).2), List.nil_append, cut_slots r 0 _ (fun x hx => hr x (by simp [hx]))]
    exact row_num hr
theorem read_text {n : Int} {ls : Rws} (h : rightF n ls = true) : headN (hTextF n ls) = n ∧ rowsN (hTextF n ls) = ls := by
  obtain ⟨h1, h4, hl⟩ := right_len h
  have hr := right_rows h
  have hok : ∀ r ∈ ls, r ≠ [] ∧ Okv r := fun r hx => by
    obtain ⟨e, hv⟩ := hr r hx
    refine ⟨fun h0 => by rw [h0] at e; simp at e; omega, fun v hv' => by have := hv v hv'; omega⟩
  have hn := num_dec (v := n) (by omega) (by omega)
  have hc : cutG 124 [] (hTextF n ls) = dec n :: ls.map rowT := by
    unfold hTextF
    rw [if_pos h, cutG_pre 124 _ _ _ (fun b hb => (hn.2 b hb).1), List.nil_append, cut_rows ls _ hok]
  unfold headN rowsN
  rw [hc]
  refine ⟨hn.1, ?_⟩
  rw [List.drop_one, List.tail_cons, List.map_map]
  conv => rhs; rw [← List.map_id ls]
  exact List.map_congr_left fun r hx => row_read (hok r hx).1 (hok r hx).2
/-- the document reads what the program reads -/
theorem heapF_read (t : B8) : heapF t = if hTextF (headN t) (rowsN t) = t ∧ t ≠ [63] then some (headN t, rowsN t) else none := by
  by_cases h : hTextF (headN t) (rowsN t) = t ∧ t ≠ [63]
  · rw [if_pos h]
    have hR : rightF (headN t) (rowsN t) = true := by
      cases e : rightF (headN t) (rowsN t) with
      | true => rfl
      | false =>
        have := h.1
        unfold hTextF at this
        rw [e] at this
        exact absurd this.symm h.2
    conv => lhs; rw [← h.1]
    exact heapF_of hR
  · rw [if_neg h]
    cases e : heapF t with
    | none => rfl
    | some x =>
      exfalso
      obtain ⟨n, ls⟩ := x
      obtain ⟨h1, h2⟩ := heapF_text e
      obtain ⟨a1, a2⟩ := read_text h1
      rw [h2] at a1 a2
      apply h
      refine ⟨by rw [a1, a2]; exact h2, fun h0 => ?_⟩
      rw [h0, heapF_wrong] at e
      cases e
end Go.Proofs.YtffdgkofolomlaaDoor
