/- Layer set: plain facts on counting bits. No program in this text. -/
import Derived.Test.YtffdgkofolomlaaDoorSetP
namespace Go.Proofs.YtffdgkofolomlaaDoor

/-! ### the bits, counted as math/bits counts them -/
theorem and_split (a b p q : Nat) (ha : a < 256) (hp : p < 256) : (a + 256 * b) &&& (p + 256 * q) = (a &&& p) + 256 * (b &&& q) := by
  have hap : a &&& p < 2 ^ 8 := Nat.and_lt_two_pow _ hp
  apply Nat.eq_of_testBit_eq
  intro i
  have e : ∀ x y : Nat, x + 256 * y = 2 ^ 8 * y + x := fun x y => by rw [Nat.add_comm]
  rw [Nat.testBit_and, e a b, e p q, e (a &&& p), Nat.testBit_two_pow_mul_add _ ha, Nat.testBit_two_pow_mul_add _ hp, Nat.testBit_two_pow_mul_add _ hap]
  split <;> rw [Nat.testBit_and]
def val (l : List Nat) : Nat := l.foldr (fun a acc => a + 256 * acc) 0
def msk (p : Nat) : Nat → Nat | 0 => 0 | n + 1 => p + 256 * msk p n
def s1b (a : Nat) : Nat := (a / 2 &&& 85) + (a &&& 85)
def s2b (a : Nat) : Nat := (a / 4 &&& 51) + (a &&& 51)
def s3b (a : Nat) : Nat := (a / 16 + a) &&& 15
theorem val_cons (a : Nat) (l : List Nat) : val (a :: l) = a + 256 * val l := rfl
theorem f1 : ∀ a, a < 256 → (∀ c, c < 2 → (a / 2 + 128 * c) &&& 85 = a / 2 &&& 85) ∧ s1b a < 256 := by decide +kernel
theorem f2 : ∀ a, a < 256 → (∀ c, c < 4 → (a / 4 + 64 * c) &&& 51 = a / 4 &&& 51) ∧ s2b a < 256 ∧ s2b a % 16 ≤ 4 + 2 ∧ s2b a / 16 ≤ 4 + 2 := by decide +kernel
theorem f21 : ∀ a, a < 256 → s2b (s1b a) % 16 ≤ 4 ∧ s2b (s1b a) / 16 ≤ 4 ∧ s2b (s1b a) < 256 := by decide +kernel
theorem f3 : ∀ a, a < 256 → (∀ c, c < 16 → (a / 16 + 16 * c + a) &&& 15 = (a / 16 + a) &&& 15) := by decide +kernel
theorem sw1 : ∀ l : List Nat, (∀ a ∈ l, a < 256) → (val l / 2 &&& msk 85 l.length) + (val l &&& msk 85 l.length) = val (l.map s1b)
  | [], _ => by simp [val, msk]
  | a :: l, h => by
    have ih := sw1 l fun x hx => h x (List.mem_cons_of_mem _ hx)
    have ha := h a (List.mem_cons_self ..)
    have f := f1 a ha
    rw [val_cons, List.map_cons, val_cons, ← ih, List.length_cons, msk, show (a + 256 * val l) / 2 = (a / 2 + 128 * (val l % 2)) + 256 * (val l / 2) by omega,
      and_split _ _ _ _ (by omega) (by decide), and_split _ _ _ _ ha (by decide), f.1 _ (Nat.mod_lt _ (by decide)), s1b]
    omega
theorem sw2 : ∀ l : List Nat, (∀ a ∈ l, a < 256) → (val l / 4 &&& msk 51 l.length) + (val l &&& msk 51 l.length) = val (l.map s2b)
  | [], _ => by simp [val, msk]
  | a :: l, h => by
    have ih := sw2 l fun x hx => h x (List.mem_cons_of_mem _ hx)
    have ha := h a (List.mem_cons_self ..)
    have f := f2 a ha
    rw [val_cons, List.map_cons, val_cons, ← ih, List.length_cons, msk, show (a + 256 * val l) / 4 = (a / 4 + 64 * (val l % 4)) + 256 * (val l / 4) by omega,
      and_split _ _ _ _ (by omega) (by decide), and_split _ _ _ _ ha (by decide), f.1 _ (Nat.mod_lt _ (by decide)), s2b]
    omega
theorem val_mod (l : List Nat) (h : ∀ a ∈ l, a % 16 ≤ 4) : val l % 16 ≤ 4 := by
  cases l with
  | nil => simp [val]
  | cons a l => have := h a (List.mem_cons_self ..); rw [val_cons]; omega
theorem sw3 : ∀ l : List Nat, (∀ a ∈ l, a % 16 ≤ 4 ∧ a / 16 ≤ 4 ∧ a < 256) → (val l / 16 + val l) &&& msk 15 l.length = val (l.map s3b)
  | [], _ => by simp [val, msk]
  | a :: l, h => by
    have ih := sw3 l fun x hx => h x (List.mem_cons_of_mem _ hx)
    obtain ⟨h1, h2, h3⟩ := h a (List.mem_cons_self ..)
    have hv := val_mod l fun x hx => (h x (List.mem_cons_of_mem _ hx)).1
    have f := f3 a h3
    rw [val_cons, List.map_cons, val_cons, ← ih, List.length_cons, msk, show (a + 256 * val l) / 16 + (a + 256 * val l) = (a / 16 + 16 * (val l % 16) + a) + 256 * (val l / 16 + val l) by omega,
      and_split _ _ _ _ (by omega) (by decide), f _ (by omega), s3b]
/-- how many bits are set among the lowest n -/
def pcn (n s : Nat) : Nat := ((List.range n).filter fun i => s.testBit i).length
theorem pcn_byte : ∀ a, a < 256 → s3b (s2b (s1b a)) = pcn 8 a ∧ pcn 8 a ≤ 8 := by decide +kernel
theorem pcn_step (n s : Nat) : pcn (8 + n) s = pcn 8 (s % 256) + pcn n (s / 256) := by
  unfold pcn
  rw [List.range_add, List.filter_append, List.length_append]
  congr 1
  · congr 1
    apply List.filter_congr
    intro i hi
    rw [show (256 : Nat) = 2 ^ 8 from rfl, Nat.testBit_mod_two_pow, decide_eq_true (List.mem_range.1 hi), Bool.true_and]
  · rw [List.filter_map, List.length_map]
    congr 1
    apply List.filter_congr
    intro i _
    show s.testBit (8 + i) = _
    rw [show (256 : Nat) = 2 ^ 8 from rfl, Nat.testBit_div_two_pow, Nat.add_comm]
theorem cnt_pcn (s : Nat) : cntF s = pcn 64 s := by unfold cntF objs pcn; rw [List.length_map]
def pop1 (s : Nat) : Nat := (s / 2 &&& 6148914691236517205) + (s &&& 6148914691236517205)
def pop2 (s : Nat) : Nat := (pop1 s / 4 &&& 3689348814741910323) + (pop1 s &&& 3689348814741910323)
def pop3 (s : Nat) : Nat := (pop2 s / 16 + pop2 s) &&& 1085102592571150095
theorem val_lt : ∀ l : List Nat, (∀ a ∈ l, a < 256) → val l < 256 ^ l.length
  | [], _ => by simp [val]
  | a :: l, h => by
    have ih := val_lt l fun x hx => h x (List.mem_cons_of_mem _ hx)
    have ha := h a (List.mem_cons_self ..)
    rw [val_cons, List.length_cons, Nat.pow_succ]; omega
theorem val_le68 : ∀ l : List Nat, (∀ a ∈ l, a ≤ 68) → 255 * val l + 68 ≤ 68 * 256 ^ l.length
  | [], _ => by simp [val]
  | a :: l, h => by
    have ih := val_le68 l fun x hx => h x (List.mem_cons_of_mem _ hx)
    have ha := h a (List.mem_cons_self ..)
    rw [val_cons, List.length_cons, Nat.pow_succ]; omega
theorem val_le8 : ∀ l : List Nat, (∀ a ∈ l, a ≤ 8) → 255 * val l + 8 ≤ 8 * 256 ^ l.length
  | [], _ => by simp [val]
  | a :: l, h => by
    have ih := val_le8 l fun x hx => h x (List.mem_cons_of_mem _ hx)
    have ha := h a (List.mem_cons_self ..)
    rw [val_cons, List.length_cons, Nat.pow_succ]; omega
theorem p256 (n : Nat) (h : n = 8) : 256 ^ n = 18446744073709551616 := by subst h; decide
theorem div_low (c k R : Nat) (hk : 0 < k) (hc : c < k) : (c + k * R) / k = R := by
  rw [Nat.add_mul_div_left _ _ hk, Nat.div_eq_of_lt hc, Nat.zero_add]
theorem lin1 (c0 c1 c2 c3 c4 c5 c6 c7 : Nat) : (c0 + 256 * (c1 + 256 * (c2 + 256 * (c3 + 256 * (c4 + 256 * (c5 + 256 * (c6 + 256 * (c7 + 256 * 0)))))))) + (c1 + 256 * (c2 + 256 * (c3 + 256 * (c4 + 256 * (c5 + 256 * (c6 + 256 * (c7 + 256 * 0))))))) =
    (c0 + c1 + 256 * (c1 + c2)) + 65536 * ((c2 + c3) + 256 * ((c3 + c4) + 256 * ((c4 + c5) + 256 * ((c5 + c6) + 256 * ((c6 + c7) + 256 * c7))))) := by omega
theorem lin2 (d0 d1 d2 d3 d4 d5 d6 d7 : Nat) : (d0 + 256 * d1) + 65536 * (d2 + 256 * (d3 + 256 * (d4 + 256 * (d5 + 256 * (d6 + 256 * d7))))) + (d2 + 256 * (d3 + 256 * (d4 + 256 * (d5 + 256 * (d6 + 256 * d7))))) =
    ((d0 + d2) + 256 * (d1 + d3) + 65536 * (d2 + d4) + 16777216 * (d3 + d5)) + 4294967296 * ((d4 + d6) + 256 * ((d5 + d7) + 256 * (d6 + 256 * d7))) := by omega
theorem lin3 (a b c d e R S : Nat) (h : a + e < 128) : (a + 256 * b + 65536 * c + 16777216 * d + 4294967296 * R + (e + 256 * S)) % 128 = a + e := by omega
theorem lt2 {c0 c1 c2 : Nat} (h0 : c0 ≤ 8) (h1 : c1 ≤ 8) (h2 : c2 ≤ 8) : c0 + c1 + 256 * (c1 + c2) < 65536 := by omega
theorem lt4 {c0 c1 c2 c3 c4 c5 c6 : Nat} (h0 : c0 ≤ 8) (h1 : c1 ≤ 8) (h2 : c2 ≤ 8) (h3 : c3 ≤ 8) (h4 : c4 ≤ 8) (h5 : c5 ≤ 8) (h6 : c6 ≤ 8) :
    (c0 + c1 + (c2 + c3)) + 256 * (c1 + c2 + (c3 + c4)) + 65536 * (c2 + c3 + (c4 + c5)) + 16777216 * (c3 + c4 + (c5 + c6)) < 4294967296 := by omega
theorem lt8 {c0 c1 c2 c3 c4 c5 c6 c7 : Nat} (h0 : c0 ≤ 8) (h1 : c1 ≤ 8) (h2 : c2 ≤ 8) (h3 : c3 ≤ 8) (h4 : c4 ≤ 8) (h5 : c5 ≤ 8) (h6 : c6 ≤ 8) (h7 : c7 ≤ 8) :
    (c0 + c1 + (c2 + c3)) + (c4 + c5 + (c6 + c7)) < 128 := by omega
theorem fin_sum (c0 c1 c2 c3 c4 c5 c6 c7 X Y Z U : Nat) (h0 : c0 ≤ 8) (h1 : c1 ≤ 8) (h2 : c2 ≤ 8) (h3 : c3 ≤ 8) (h4 : c4 ≤ 8) (h5 : c5 ≤ 8) (h6 : c6 ≤ 8) (h7 : c7 ≤ 8)
    (hX : X = c0 + 256 * (c1 + 256 * (c2 + 256 * (c3 + 256 * (c4 + 256 * (c5 + 256 * (c6 + 256 * (c7 + 256 * 0)))))))) (hY : Y = X + X / 256) (hZ : Z = Y + Y / 65536) (hU : U = Z + Z / 4294967296) :
    U % 128 = c0 + (c1 + (c2 + (c3 + (c4 + (c5 + (c6 + c7)))))) := by
  rw [hX, div_low _ 256 _ (by decide) (Nat.lt_of_le_of_lt h0 (by decide)), lin1] at hY
  rw [hY, div_low _ 65536 _ (by decide) (lt2 h0 h1 h2), lin2] at hZ
  rw [hZ, div_low _ 4294967296 _ (by decide) (lt4 h0 h1 h2 h3 h4 h5 h6)] at hU
  clear hX hY hZ
  rw [hU, lin3 _ _ _ _ _ _ _ (lt8 h0 h1 h2 h3 h4 h5 h6 h7)]
  clear hU
  omega
theorem fin_lt (X Y Z U : Nat) (hX : 255 * X + 8 ≤ 8 * 18446744073709551616) (hY : Y = X + X / 256) (hZ : Z = Y + Y / 65536) (hU : U = Z + Z / 4294967296) :
    X < 18446744073709551616 ∧ Y < 18446744073709551616 ∧ Z < 18446744073709551616 ∧ U < 18446744073709551616 := by omega
theorem pop2_lt (X : Nat) (hX : 255 * X + 68 ≤ 68 * 18446744073709551616) : X < 18446744073709551616 ∧ X / 16 + X < 18446744073709551616 := by omega
theorem g68 (x : Nat) (hx : x < 256) : s1b x < 256 ∧ s2b (s1b x) ≤ 68 := by have := (f1 x hx).2; have := f21 x hx; omega
theorem pl1 (L : List Nat) (hb : ∀ a ∈ L, a < 256) (hl : L.length = 8) {s : Nat} (e : s = val (L.map s1b)) : s < 18446744073709551616 := by
  have hP := val_lt (L.map s1b) (fun a ha => by obtain ⟨x, hx, rfl⟩ := List.mem_map.1 ha; exact (g68 x (hb x hx)).1)
  rw [p256 _ (by simp [hl]), ← e] at hP
  exact hP
theorem pl2 (L : List Nat) (hb : ∀ a ∈ L, a < 256) (hl : L.length = 8) {s : Nat} (e : s = val ((L.map s1b).map s2b)) : s < 18446744073709551616 ∧ s / 16 + s < 18446744073709551616 := by
  have hP := val_le68 ((L.map s1b).map s2b) (fun a ha => by obtain ⟨y, hy, rfl⟩ := List.mem_map.1 ha; obtain ⟨x, hx, rfl⟩ := List.mem_map.1 hy; exact (g68 x (hb x hx)).2)
  rw [p256 _ (by simp [hl]), ← e] at hP
  exact pop2_lt _ hP
theorem pl3 (L : List Nat) (hb : ∀ a ∈ L, a < 256) (hl : L.length = 8) {s : Nat} (e : s = val (((L.map s1b).map s2b).map s3b)) : 255 * s + 8 ≤ 8 * 18446744073709551616 := by
  have hP := val_le8 (((L.map s1b).map s2b).map s3b) (fun a ha => by
    obtain ⟨z, hz, rfl⟩ := List.mem_map.1 ha; obtain ⟨y, hy, rfl⟩ := List.mem_map.1 hz; obtain ⟨x, hx, rfl⟩ := List.mem_map.1 hy
    have := pcn_byte x (hb x hx); omega)
  rw [p256 _ (by simp [hl]), ← e] at hP
  exact hP
theorem pop_all (s : Nat) (hs : s < 18446744073709551616) (Y Z U : Nat) (hY : Y = pop3 s + pop3 s / 256) (hZ : Z = Y + Y / 65536) (hU : U = Z + Z / 4294967296) :
    U % 128 = cntF s ∧ pop1 s < 18446744073709551616 ∧ pop2 s < 18446744073709551616 ∧ pop2 s / 16 + pop2 s < 18446744073709551616 ∧ pop3 s < 18446744073709551616 ∧ Y < 18446744073709551616 ∧ Z < 18446744073709551616 ∧ U < 18446744073709551616 := by
  obtain ⟨b0, b1, b2, b3, b4, b5, b6, b7, h0, h1, h2, h3, h4, h5, h6, h7, hv⟩ : ∃ b0 b1 b2 b3 b4 b5 b6 b7, b0 < 256 ∧ b1 < 256 ∧ b2 < 256 ∧ b3 < 256 ∧ b4 < 256 ∧ b5 < 256 ∧ b6 < 256 ∧ b7 < 256 ∧ s = val [b0, b1, b2, b3, b4, b5, b6, b7] := by
    refine ⟨s % 256, s / 256 % 256, s / 256 / 256 % 256, s / 256 / 256 / 256 % 256, s / 256 / 256 / 256 / 256 % 256, s / 256 / 256 / 256 / 256 / 256 % 256, s / 256 / 256 / 256 / 256 / 256 / 256 % 256, s / 256 / 256 / 256 / 256 / 256 / 256 / 256 % 256, ?_⟩
    refine ⟨by omega, by omega, by omega, by omega, by omega, by omega, by omega, by omega, ?_⟩
    simp only [val, List.foldr_cons, List.foldr_nil]
    omega
  have hc : cntF s = pcn 8 b0 + (pcn 8 b1 + (pcn 8 b2 + (pcn 8 b3 + (pcn 8 b4 + (pcn 8 b5 + (pcn 8 b6 + pcn 8 b7)))))) := by
    have st : ∀ n a (l : List Nat), a < 256 → pcn (8 + n) (val (a :: l)) = pcn 8 a + pcn n (val l) := fun n a l ha => by
      rw [pcn_step, val_cons, show (a + 256 * val l) % 256 = a by omega, show (a + 256 * val l) / 256 = val l by omega]
    rw [cnt_pcn, hv, show (64 : Nat) = 8 + (8 + (8 + (8 + (8 + (8 + (8 + (8 + 0))))))) from rfl]
    rw [st _ _ _ h0, st _ _ _ h1, st _ _ _ h2, st _ _ _ h3, st _ _ _ h4, st _ _ _ h5, st _ _ _ h6, st _ _ _ h7]
    have z : pcn 0 (val []) = 0 := rfl
    rw [z]; omega
  have all : ∀ P : Nat → Prop, P b0 → P b1 → P b2 → P b3 → P b4 → P b5 → P b6 → P b7 → ∀ a ∈ [b0, b1, b2, b3, b4, b5, b6, b7], P a := by
    intro P p0 p1 p2 p3 p4 p5 p6 p7 a ha
    simp only [List.mem_cons, List.mem_nil_iff, or_false] at ha
    rcases ha with rfl | rfl | rfl | rfl | rfl | rfl | rfl | rfl <;> assumption
  have hb := all (· < 256) h0 h1 h2 h3 h4 h5 h6 h7
  have m85 : msk 85 8 = 6148914691236517205 := by decide +kernel
  have m51 : msk 51 8 = 3689348814741910323 := by decide +kernel
  have m15 : msk 15 8 = 1085102592571150095 := by decide +kernel
  have e1 : pop1 s = val ([b0, b1, b2, b3, b4, b5, b6, b7].map s1b) := by
    rw [← sw1 _ hb, ← hv]; unfold pop1; rw [← m85]; rfl
  have e2 : pop2 s = val (([b0, b1, b2, b3, b4, b5, b6, b7].map s1b).map s2b) := by
    rw [← sw2 _ (fun a ha => by obtain ⟨x, hx, rfl⟩ := List.mem_map.1 ha; exact (f1 x (hb x hx)).2), ← e1]; unfold pop2; rw [← m51]; rfl
  have e3 : pop3 s = val ((([b0, b1, b2, b3, b4, b5, b6, b7].map s1b).map s2b).map s3b) := by
    rw [← sw3 _ (fun a ha => by obtain ⟨y, hy, rfl⟩ := List.mem_map.1 ha; obtain ⟨x, hx, rfl⟩ := List.mem_map.1 hy; exact f21 x (hb x hx)), ← e2]; unfold pop3; rw [← m15]; rfl
  have hlen : [b0, b1, b2, b3, b4, b5, b6, b7].length = 8 := rfl
  have l1 : pop1 s < 18446744073709551616 := pl1 _ hb hlen e1
  have l2 := pl2 _ hb hlen e2
  have l3 := pl3 _ hb hlen e3
  clear all
  have p0 := pcn_byte b0 h0; have p1 := pcn_byte b1 h1; have p2 := pcn_byte b2 h2; have p3 := pcn_byte b3 h3; have p4 := pcn_byte b4 h4; have p5 := pcn_byte b5 h5; have p6 := pcn_byte b6 h6; have p7 := pcn_byte b7 h7
  have r1 := fin_sum (pcn 8 b0) (pcn 8 b1) (pcn 8 b2) (pcn 8 b3) (pcn 8 b4) (pcn 8 b5) (pcn 8 b6) (pcn 8 b7) (pop3 s) Y Z U p0.2 p1.2 p2.2 p3.2 p4.2 p5.2 p6.2 p7.2
    (by rw [e3, ← p0.1, ← p1.1, ← p2.1, ← p3.1, ← p4.1, ← p5.1, ← p6.1, ← p7.1]; rfl) hY hZ hU
  obtain ⟨r2, r3, r4, r5⟩ := fin_lt (pop3 s) Y Z U l3 hY hZ hU
  exact ⟨by rw [r1, hc], l1, l2.1, l2.2, r2, r3, r4, r5⟩
end Go.Proofs.YtffdgkofolomlaaDoor
