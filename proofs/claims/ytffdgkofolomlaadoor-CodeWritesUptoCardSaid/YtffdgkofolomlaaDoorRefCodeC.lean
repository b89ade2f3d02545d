/- Layer code: the document's Fits, Writes, one. -/
import Derived.Test.YtffdgkofolomlaaDoorRefCodeB
namespace Go.Proofs.YtffdgkofolomlaaDoor
open Go.RowKit

def oq (o : Oq) : List Value := [.int .i64 o.kind, .int .i64 o.r, .int .i64 o.a, .int .i64 o.s]
theorem oq_len (o : Oq) : (oq o).length = 4 := rfl
abbrev Oqs (w : World) (v : Value) (l : List Oq) : Prop := Sl oq 4 w v l
theorem oq_at {w : World} {A : Option Addr} {n c i : Nat} {l : List Oq} {k t a b : Int} (h : Oqs w (.slice A n c) l) (hi : i < l.length) (e : l[i] = ⟨k, t, a, b⟩) :
    ∃ g off, A = some ⟨g, off, none⟩ ∧ g < w.heap.size ∧ w.cell? ⟨g, off + i * 4, none⟩ = some (.int .i64 k) ∧ w.cell? ⟨g, off + i * 4 + 1, none⟩ = some (.int .i64 t) ∧ w.cell? ⟨g, off + i * 4 + 2, none⟩ = some (.int .i64 a) ∧ w.cell? ⟨g, off + i * 4 + 3, none⟩ = some (.int .i64 b) := by
  obtain ⟨A', c', e0, h1, h2, h3⟩ := h
  injection e0 with e1 e2 e3
  subst e1
  obtain ⟨g, off, rfl, hb, hc⟩ := h3 (by omega)
  have hd := List.getElem?_eq_getElem hi
  rw [e] at hd
  exact ⟨g, off, rfl, hb, hc i _ hd 0 _ rfl, hc i _ hd 1 _ rfl, hc i _ hd 2 _ rfl, hc i _ hd 3 _ rfl⟩
/-- nothing that stands ahead of this is the op of that text -/
def Lx (t : List UInt8) (K R A S : Int) : Prop := ∀ o : Oq, cRight o 4 4 = true → cText o = t → K < o.kind ∨ o.kind = K ∧ (R < o.r ∨ o.r = R ∧ (A < o.a ∨ o.a = A ∧ S ≤ o.s))
theorem lx_start (t : List UInt8) : Lx t 1 0 0 0 := fun ⟨k, r, a, s⟩ h _ => by have := cRight_rng h; simp only; omega
theorem lx_next {t : List UInt8} {K R A S : Int} (h : Lx t K R A S) (hn : ¬ (cRight ⟨K, R, A, S⟩ 4 4 = true ∧ cText ⟨K, R, A, S⟩ = t)) : Lx t K R A (S + 1) := fun ⟨k, r, a, s⟩ h1 h2 => by
  have h3 := h ⟨k, r, a, s⟩ h1 h2
  simp only at h3 ⊢
  by_cases e : k = K ∧ r = R ∧ a = A ∧ s = S
  · obtain ⟨rfl, rfl, rfl, rfl⟩ := e; exact absurd ⟨h1, h2⟩ hn
  · omega
theorem lx_a {t : List UInt8} {K R A : Int} (h : Lx t K R A 4) : Lx t K R (A + 1) 0 := fun ⟨k, r, a, s⟩ h1 h2 => by
  have h3 := h ⟨k, r, a, s⟩ h1 h2; have := cRight_rng h1; simp only at h3 ⊢; omega
theorem lx_r {t : List UInt8} {K R : Int} (h : Lx t K R 4 0) : Lx t K (R + 1) 0 0 := fun ⟨k, r, a, s⟩ h1 h2 => by
  have h3 := h ⟨k, r, a, s⟩ h1 h2; have := cRight_rng h1; simp only at h3 ⊢; omega
theorem lx_k {t : List UInt8} {K : Int} (h : Lx t K 4 0 0) : Lx t (K + 1) 0 0 0 := fun ⟨k, r, a, s⟩ h1 h2 => by
  have h3 := h ⟨k, r, a, s⟩ h1 h2; have := cRight_rng h1; simp only at h3 ⊢; omega
theorem lx_end {t : List UInt8} (h : Lx t 6 0 0 0) : cOne t = none := by
  cases hc : cOne t with
  | none => rfl
  | some o =>
    obtain ⟨h1, h2⟩ := one_some hc
    obtain ⟨k, r, a, s⟩ := o
    have h3 := h ⟨k, r, a, s⟩ h1 h2; have := cRight_rng h1; simp only at h3; omega
theorem cWrites_take {l : List Oq} {i : Nat} (h : i < l.length) : cWrites (l.take (i + 1)) = cWrites (l.take i) + (if l[i].kind = 2 then 1 else 0) := by
  unfold cWrites
  rw [List.take_succ_eq_append_getElem h, List.countP_append, List.countP_cons, List.countP_nil]
  simp
theorem cFits_take {l : List Oq} {i : Nat} {p q : Int} (h : i < l.length) : ((l.take (i + 1)).all fun o => cRight o p q) = (((l.take i).all fun o => cRight o p q) && cRight l[i] p q) := by
  rw [List.take_succ_eq_append_getElem h, List.all_append]; simp
set_option maxRecDepth 100000 in
set_option maxHeartbeats 2000000 in
theorem rcFits_any (v : Value) (l : List Oq) (p q : Int) (w : World) (h : Oqs w v l) : Calls Tryd.prog 17 #[v, .int .i64 p, .int .i64 q] w fun e w' => e = .returned (.bool (cFits l p q)) ∧ Below w.heap.size w w' := by
  have HO := hide h
  obtain ⟨A, m, rfl, hm1, hm2, -⟩ := id h
  unfold maxLen at hm2
  clear h
  go_enter Tryd.func17, Tryd.ntmps17
  go_wp2
  go_loopw [7] (fun iv wr => ∃ i : Nat, i ≤ l.length ∧ iv = .int .i64 i ∧ Below w.heap.size w wr ∧ Hid (((l.take i).all fun o => cRight o p q) = true)) (fun iv _ => l.length - (Go.RowKit.intOf iv).toNat)
  case atStart => exact ⟨0, Nat.zero_le _, rfl, Below.refl _ _, hide rfl⟩
  case round =>
    obtain ⟨i, hi, rfl, hb, HK⟩ := hrel
    by_cases hlt : i < l.length
    · obtain ⟨⟨k, r, a, s⟩, hd⟩ : ∃ d : Oq, l[i] = d := ⟨_, rfl⟩
      obtain ⟨g, off, rfl, -, d0, d1, d2, d3⟩ := oq_at (HO.out.below hb) hlt hd
      have HT := hide (cFits_take (p := p) (q := q) hlt)
      rw [hd] at HT
      cases hr : cRight ⟨k, r, a, s⟩ p q
      · have HR := hide hr
        have HF := hide (show cFits l p q = false by unfold cFits; rw [Bool.and_eq_false_iff]; left; rw [Bool.eq_false_iff]; intro h; rw [List.all_eq_true] at h; have := h _ (List.getElem_mem hlt); rw [hd, hr] at this; cases this)
        clear hr hd
        go_wp2_with fail
        (with_reducible refine (rcRight_any k r a s p q _).mono ?_)
        rintro e w2 ⟨rfl, hb2⟩
        rw [HR.out]
        have hb := bcall hb hb2
        go_wp2
        go_ret
        exact ⟨ret_bool HF.out.symm, hb⟩
      · have HR := hide hr
        have HK2 := hide (show ((l.take (i + 1)).all fun o => cRight o p q) = true by rw [HT.out, HK.out, hr]; rfl)
        clear hr hd
        go_wp2_with fail
        (with_reducible refine (rcRight_any k r a s p q _).mono ?_)
        rintro e w2 ⟨rfl, hb2⟩
        rw [HR.out]
        have hb := bcall hb hb2
        go_wp2
        go_roundw
        case rel => exact ⟨i + 1, by omega, by go_num, hb, HK2⟩
        case measure => simp [Go.RowKit.intOf]; omega
    · have HF := hide (show cFits l p q = decide (l.length ≤ 64) by have h := HK.out; rw [List.take_of_length_le (by omega)] at h; unfold cFits; rw [h]; rfl)
      by_cases h64 : l.length ≤ 64
      · have EF := hide (show cFits l p q = true by rw [HF.out]; exact decide_eq_true h64)
        go_wp2
        go_ret
        exact ⟨ret_bool (by first | exact EF.out.symm | (rw [EF.out]; exact decide_eq_true (by omega))), hb⟩
      · have EF := hide (show cFits l p q = false by rw [HF.out]; exact decide_eq_false h64)
        go_wp2
        go_ret
        exact ⟨ret_bool (by first | exact EF.out.symm | (rw [EF.out]; exact decide_eq_false (by omega))), hb⟩
set_option maxRecDepth 100000 in
set_option maxHeartbeats 2000000 in
theorem rcWrites_any (v : Value) (l : List Oq) (w : World) (h : Oqs w v l) : Calls Tryd.prog 19 #[v] w fun e w' => e = .returned (.int .i64 (cWrites l : Nat)) ∧ w' = w := by
  have HO := hide h
  obtain ⟨A, m, rfl, hm1, hm2, -⟩ := id h
  unfold maxLen at hm2
  clear h
  go_enter Tryd.func19, Tryd.ntmps19
  go_wp2
  go_loopw [3, 4] (fun nv iv wr => ∃ i : Nat, i ≤ l.length ∧ iv = .int .i64 i ∧ nv = .int .i64 (cWrites (l.take i) : Nat) ∧ cWrites (l.take i) ≤ i ∧ wr = w) (fun _ iv _ => l.length - (Go.RowKit.intOf iv).toNat)
  case atStart => exact ⟨0, Nat.zero_le _, rfl, rfl, Nat.zero_le _, rfl⟩
  case round =>
    obtain ⟨i, hi, rfl, rfl, hle, rfl⟩ := hrel
    by_cases hlt : i < l.length
    · obtain ⟨⟨k, r, a, s⟩, hd⟩ : ∃ d : Oq, l[i] = d := ⟨_, rfl⟩
      obtain ⟨g, off, rfl, -, d0, d1, d2, d3⟩ := oq_at HO.out hlt hd
      have hT := cWrites_take hlt
      rw [hd] at hT
      simp only at hT
      obtain ⟨n, hn⟩ : ∃ n, cWrites (l.take i) = n := ⟨_, rfl⟩
      rw [hn] at hT hle ⊢
      by_cases hk : k = 2
      · rw [if_pos hk] at hT
        have HT := hide hT
        have qk : (k == 2) = true := by simp [hk]
        clear hk hT hd hn
        go_wp2
        go_roundw
        case rel => exact ⟨i + 1, by omega, by go_num, by rw [HT.out]; go_num, by rw [HT.out]; omega, by first | rfl | trivial⟩
        case measure => simp [Go.RowKit.intOf]; omega
      · rw [if_neg hk] at hT
        have HT := hide hT
        have qk : (k == 2) = false := by simp [hk]
        clear hk hT hd hn
        go_wp2
        go_roundw
        case rel => exact ⟨i + 1, by omega, by go_num, by rw [HT.out]; go_num, by rw [HT.out]; omega, by first | rfl | trivial⟩
        case measure => simp [Go.RowKit.intOf]; omega
    · have HF := hide (show l.take i = l from List.take_of_length_le (by omega))
      go_wp2
      go_ret
      exact ⟨ret_int (by rw [HF.out]), rfl⟩
end Go.Proofs.YtffdgkofolomlaaDoor
