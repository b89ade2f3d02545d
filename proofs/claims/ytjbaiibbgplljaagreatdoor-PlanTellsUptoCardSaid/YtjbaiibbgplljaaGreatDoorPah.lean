import Derived.Test.YtjbaiibbgplljaaGreatDoorPaa
import Derived.Test.YtjbaiibbgplljaaGreatDoorPaa
namespace Go.Proofs.YtjbaiibbgplljaaGreatDoor
abbrev allNRc : Nat := 18446744073709551615
abbrev inO (ls : Rws) (o : Int) : Prop := 1 ≤ o ∧ o ≤ 64 ∧ o ≤ (ls.length : Int)
def ownFRc (ls : Rws) : Nat := firstF ls.length
def nextF (ls : Rws) (s : Nat) : Nat := (objs s).foldl (fun a o => a ||| (ofF (rowF ls o) &&& ownFRc ls)) 0
def levF (ls : Rws) (opn r : Nat) : Nat → Nat
 | 0 => r &&& ownFRc ls
 | k + 1 => levF ls opn r k ||| nextF ls (levF ls opn r k &&& opn)
def viaF (ls : Rws) (r over : Nat) : Nat := levF ls (r ||| over) r 64
def fromF (ls : Rws) (r : Nat) : Nat := levF ls allNRc r 64
def dstF (ls : Rws) (opn r : Nat) (o : Int) : Int :=
 match (List.range 65).find? fun k => hasF (levF ls opn r k) o with
 | some k => (k : Int)
 | none => -1
theorem has_orRc (a b : Nat) (o : Int) : hasF (a ||| b) o = (hasF a o || hasF b o) := by
 unfold hasF; rw [Nat.testBit_or]; cases decide (1 ≤ o) <;> cases decide (o ≤ 64) <;> simp
theorem has_andRc (a b : Nat) (o : Int) : hasF (a &&& b) o = (hasF a o && hasF b o) := by
 unfold hasF; rw [Nat.testBit_and]; cases decide (1 ≤ o) <;> cases decide (o ≤ 64) <;> simp
theorem has_zero (o : Int) : hasF 0 o = false := by unfold hasF; simp
theorem has_rng {s : Nat} {o : Int} (h : hasF s o = true) : 1 ≤ o ∧ o ≤ 64 := objs_rng (mem_objs.2 h)
theorem has_extRc {a b : Nat} (ha : a < 18446744073709551616) (hb : b < 18446744073709551616) (h : ∀ o, hasF a o = true ↔ hasF b o = true) : a = b :=
 set_ext ha hb fun i hi => by rw [← has_bit a i hi, ← has_bit b i hi, Bool.eq_iff_iff]; exact h _
theorem lor_lt {a b : Nat} (ha : a < 18446744073709551616) (hb : b < 18446744073709551616) : a ||| b < 18446744073709551616 := by
 rw [← p64] at *; exact Nat.or_lt_two_pow ha hb
theorem land_lt {a : Nat} (b : Nat) (ha : a < 18446744073709551616) : a &&& b < 18446744073709551616 := Nat.lt_of_le_of_lt Nat.and_le_left ha
theorem has_own (ls : Rws) (o : Int) : hasF (ownFRc ls) o = decide (inO ls o) := has_first _ _
theorem has_all (o : Int) (h : 1 ≤ o ∧ o ≤ 64) : hasF allNRc o = true := by
 have := has_first 64 o; rw [show firstF 64 = allNRc by decide] at this; rw [this, decide_eq_true_iff]; omega
theorem own_lt (ls : Rws) : ownFRc ls < 18446744073709551616 := first_lt _
theorem fold_has (g : Int → Nat) (x : Int) : ∀ (l : List Int) (s : Nat), hasF (l.foldl (fun a o => a ||| g o) s) x = true ↔ hasF s x = true ∨ ∃ o ∈ l, hasF (g o) x = true
 | [], s => by simp
 | o :: l, s => by
   rw [List.foldl_cons, fold_has g x l, has_orRc, Bool.or_eq_true]; constructor
   · rintro ((h | h) | ⟨p, hp, h⟩)
     · exact .inl h
     · exact .inr ⟨o, by simp, h⟩
     · exact .inr ⟨p, by simp [hp], h⟩
   · rintro (h | ⟨p, hp, h⟩)
     · exact .inl (.inl h)
     · rcases List.mem_cons.1 hp with rfl | hp
       · exact .inl (.inr h)
       · exact .inr ⟨p, hp, h⟩
theorem fold_lt (g : Int → Nat) (hg : ∀ o, g o < 18446744073709551616) : ∀ (l : List Int) (s : Nat), s < 18446744073709551616 → l.foldl (fun a o => a ||| g o) s < 18446744073709551616
 | [], _, h => h
 | o :: l, _, h => fold_lt g hg l _ (lor_lt h (hg o))
theorem next_lt (ls : Rws) (s : Nat) : nextF ls s < 18446744073709551616 := fold_lt _ (fun _ => land_lt _ (ofF_lt _)) _ _ (by decide)
theorem has_next (ls : Rws) (s : Nat) (x : Int) : hasF (nextF ls s) x = true ↔ inO ls x ∧ ∃ y, hasF s y = true ∧ x ∈ rowF ls y := by
 unfold nextF; rw [fold_has]; simp only [has_zero, Bool.false_eq_true, false_or, has_andRc, Bool.and_eq_true, has_own, decide_eq_true_eq, has_of, mem_objs]; constructor
 · rintro ⟨y, hy, ⟨_, h⟩, hx⟩; exact ⟨hx, y, hy, h⟩
 · rintro ⟨hx, y, hy, h⟩; exact ⟨y, hy, ⟨⟨hx.1, hx.2.1⟩, h⟩, hx⟩
theorem lev_lt (ls : Rws) (opn : Nat) {r : Nat} (hr : r < 18446744073709551616) : ∀ k, levF ls opn r k < 18446744073709551616
 | 0 => land_lt _ hr
 | k + 1 => lor_lt (lev_lt ls opn hr k) (next_lt _ _)
theorem has_lev0 (ls : Rws) (opn r : Nat) (x : Int) : hasF (levF ls opn r 0) x = true ↔ hasF r x = true ∧ inO ls x := by
 unfold levF; rw [has_andRc, Bool.and_eq_true, has_own, decide_eq_true_eq]
theorem has_levS (ls : Rws) (opn r k : Nat) (x : Int) : hasF (levF ls opn r (k + 1)) x = true ↔ hasF (levF ls opn r k) x = true ∨ (inO ls x ∧ ∃ y, hasF (levF ls opn r k) y = true ∧ hasF opn y = true ∧ x ∈ rowF ls y) := by
 rw [levF, has_orRc, Bool.or_eq_true, has_next]; simp only [has_andRc, Bool.and_eq_true, and_assoc]
theorem lev_mono (ls : Rws) (opn r : Nat) (x : Int) {k : Nat} (h : hasF (levF ls opn r k) x = true) : ∀ j, k ≤ j → hasF (levF ls opn r j) x = true := by
 intro j hj; induction hj with
 | refl => exact h
 | step _ ih => exact (has_levS ..).2 (.inl ih)
theorem lev_in (ls : Rws) (opn r : Nat) (x : Int) : ∀ k, hasF (levF ls opn r k) x = true → inO ls x
 | 0, h => ((has_lev0 ..).1 h).2
 | k + 1, h => by
   rcases (has_levS ..).1 h with h | h
   · exact lev_in ls opn r x k h
   · exact h.1
theorem flt_le (p q : Nat → Bool) (h : ∀ i, p i = true → q i = true) : ∀ l : List Nat, (l.filter p).length ≤ (l.filter q).length
 | [] => Nat.le_refl _
 | x :: l => by
   have := flt_le p q h l; by_cases hp : p x = true
   · simp [hp, h x hp]; exact this
   · by_cases hq : q x = true <;> simp [hp, hq] <;> omega
theorem flt_eq (p q : Nat → Bool) (h : ∀ i, p i = true → q i = true) : ∀ l : List Nat, (l.filter p).length = (l.filter q).length → ∀ i ∈ l, q i = true → p i = true
 | [], _, _, hi, _ => by simp at hi
 | x :: l, he, i, hi, hq => by
   have hle := flt_le p q h l; by_cases hp : p x = true
   · simp [hp, h x hp] at he
     rcases List.mem_cons.1 hi with rfl | hi
     · exact hp
     · exact flt_eq p q h l he i hi hq
   · by_cases hqx : q x = true
     · simp [hp, hqx] at he; omega
     · simp [hp, hqx] at he
       rcases List.mem_cons.1 hi with rfl | hi
       · exact absurd hq hqx
       · exact flt_eq p q h l he i hi hq
theorem cnt_more {a b : Nat} (ha : a < 18446744073709551616) (hb : b < 18446744073709551616) (h : ∀ o, hasF a o = true → hasF b o = true) : a = b ∨ cntF a < cntF b := by
 have hbit : ∀ i, a.testBit i = true → b.testBit i = true := fun i hi => by
  have h64 := testBit_high ha hi; rw [← has_bit b i h64]; rw [← has_bit a i h64] at hi; exact h _ hi
 have hle := flt_le (fun i => a.testBit i) (fun i => b.testBit i) hbit (List.range 64); by_cases he : ((List.range 64).filter fun i => a.testBit i).length = ((List.range 64).filter fun i => b.testBit i).length
 · left
   have hr := flt_eq _ _ hbit (List.range 64) he; refine set_ext ha hb fun i hi => ?_
   rw [Bool.eq_iff_iff]; exact ⟨hbit i, hr i (List.mem_range.2 hi)⟩
 · right
   unfold cntF objs; rw [List.length_map, List.length_map]; omega
theorem lev_stable (ls : Rws) (opn r k : Nat) (h : levF ls opn r (k + 1) = levF ls opn r k) : ∀ j, k ≤ j → levF ls opn r j = levF ls opn r k := by
 intro j hj; induction hj with
 | refl => rfl
 | @step m _ ih => rw [← h, levF, levF, ih]
theorem lev_grow (ls : Rws) (opn : Nat) {r : Nat} (hr : r < 18446744073709551616) : ∀ k, (∃ j, j < k ∧ levF ls opn r (j + 1) = levF ls opn r j) ∨ k ≤ cntF (levF ls opn r k)
 | 0 => .inr (Nat.zero_le _)
 | k + 1 => by
   rcases lev_grow ls opn hr k with ⟨j, hj, h⟩ | h
   · exact .inl ⟨j, by omega, h⟩
   · rcases cnt_more (lev_lt ls opn hr k) (lev_lt ls opn hr (k + 1)) (fun o ho => (has_levS ..).2 (.inl ho)) with he | hlt
     · exact .inl ⟨k, by omega, he.symm⟩
     · exact .inr (by omega)
theorem cnt_le (s : Nat) : cntF s ≤ 64 := objs_len s
theorem lev_64 (ls : Rws) (opn : Nat) {r : Nat} (hr : r < 18446744073709551616) : ∀ j, 64 ≤ j → levF ls opn r j = levF ls opn r 64 := by
 rcases lev_grow ls opn hr 65 with ⟨j, hj, h⟩ | h
 · intro i hi
   rw [lev_stable ls opn r j h i (by omega), lev_stable ls opn r j h 64 (by omega)]
 · have := cnt_le (levF ls opn r 65); omega
inductive Rch (ls : Rws) (opn r : Nat) : Int → Prop
 | root {x : Int} (h : hasF r x = true) (hx : inO ls x) : Rch ls opn r x
 | step {x y : Int} (h : Rch ls opn r y) (ho : hasF opn y = true) (hm : x ∈ rowF ls y) (hx : inO ls x) : Rch ls opn r x
theorem Rch.inO {ls : Rws} {opn r : Nat} {x : Int} (h : Rch ls opn r x) : inO ls x := by cases h <;> assumption
theorem rch_of_lev {ls : Rws} {opn r : Nat} : ∀ (k : Nat) {x : Int}, hasF (levF ls opn r k) x = true → Rch ls opn r x
 | 0, x, h => .root ((has_lev0 ..).1 h).1 ((has_lev0 ..).1 h).2
 | k + 1, x, h => by
   rcases (has_levS ..).1 h with h | ⟨hx, y, hy, ho, hm⟩
   · exact rch_of_lev k h
   · exact .step (rch_of_lev k hy) ho hm hx
theorem has_rch {ls : Rws} {opn r : Nat} (hr : r < 18446744073709551616) {x : Int} : hasF (levF ls opn r 64) x = true ↔ Rch ls opn r x := by
 refine ⟨rch_of_lev 64, fun h => ?_⟩; induction h with
 | root h hx => exact lev_mono _ _ _ _ ((has_lev0 ..).2 ⟨h, hx⟩) 64 (by omega)
 | @step x y _ ho hm hx ih => rw [← lev_64 ls opn hr 65 (by omega)]; exact (has_levS ..).2 (.inr ⟨hx, y, ih, ho, hm⟩)
def farA (far : List Int) (o : Int) : Int := far.getD (o - 1).toNat (-1)
abbrev metA (far : List Int) (o : Int) : Prop := 1 ≤ o ∧ o ≤ 64 ∧ farA far o ≠ -1
def meetOk (ls : Rws) (far : List Int) (o : Int) : Bool := decide (inO ls o) && decide (farA far o = -1)
def meetFar (ls : Rws) (far : List Int) (o d : Int) : List Int := if meetOk ls far o then far.set (o - 1).toNat d else far
def meetQ (ls : Rws) (far q : List Int) (o : Int) : List Int := if meetOk ls far o then q ++ [o] else q
def unmetN (far : List Int) : Nat := far.count (-1)
structure InvRc (ls : Rws) (opn r : Nat) (R far q : List Int) : Prop where
 len : far.length = 64
 sound : ∀ x, metA far x → 0 ≤ farA far x ∧ inO ls x ∧ hasF (levF ls opn r (farA far x).toNat) x = true ∧ farA far x + unmetN far ≤ 63
 qmet : ∀ x ∈ q, metA far x
 roots : ∀ x ∈ R, inO ls x → farA far x = 0
 sorted : q.Pairwise fun a b => farA far a ≤ farA far b
 near : ∀ y, metA far y → ∀ x ∈ q, farA far y ≤ farA far x + 1
 done : ∀ x, metA far x → x ∉ q → hasF opn x = true → ∀ v ∈ rowF ls x, inO ls v → metA far v ∧ farA far v ≤ farA far x + 1
 room : unmetN far + q.length ≤ 64
theorem farA_set {far : List Int} {o d : Int} (hl : far.length = 64) (ho : 1 ≤ o ∧ o ≤ 64) (x : Int) (hx : 1 ≤ x) : farA (far.set (o - 1).toNat d) x = if x = o then d else farA far x := by
 unfold farA; split
 · rename_i h; subst h
   rw [List.getD_eq_getElem?_getD, List.getElem?_set_self (by omega)]; rfl
 · rw [List.getD_eq_getElem?_getD, List.getElem?_set_ne (by omega), ← List.getD_eq_getElem?_getD]
theorem unmet_set : ∀ (far : List Int) (k : Nat) (d : Int), far.getD k 0 = -1 → d ≠ -1 → unmetN (far.set k d) + 1 = unmetN far
 | [], k, d, h, _ => by simp at h
 | x :: far, 0, d, h, hd => by
   simp only [List.getD_cons_zero] at h; subst h; unfold unmetN; rw [List.set_cons_zero, List.count_cons_self, List.count_cons_of_ne (by omega)]
 | x :: far, k + 1, d, h, hd => by
   have ih := unmet_set far k d (by simpa using h) hd; unfold unmetN at *; rw [List.set_cons_succ]; by_cases hx : x = -1
   · subst hx; rw [List.count_cons_self, List.count_cons_self]; omega
   · rw [List.count_cons_of_ne (by omega), List.count_cons_of_ne (by omega)]; exact ih
theorem getD_far {far : List Int} (hl : far.length = 64) {o : Int} (ho : 1 ≤ o ∧ o ≤ 64) : far.getD (o - 1).toNat 0 = farA far o := by
 unfold farA; rw [List.getD_eq_getElem?_getD, List.getD_eq_getElem?_getD, List.getElem?_eq_getElem (by omega)]; rfl
theorem meetOk_iff {ls : Rws} {far : List Int} {o : Int} : meetOk ls far o = true ↔ inO ls o ∧ farA far o = -1 := by
 unfold meetOk; rw [Bool.and_eq_true, decide_eq_true_iff, decide_eq_true_iff]
theorem meet_inv {ls : Rws} {opn r : Nat} {R far q P : List Int} {o d : Int} (h : InvRc ls opn r R far (P ++ q)) (hok : meetOk ls far o = true) (h0 : 0 ≤ d)
 (hlev : hasF (levF ls opn r d.toNat) o = true) (hroot : o ∈ R → d = 0) (hdu : d + unmetN far ≤ 64) (hlo : ∀ x ∈ P ++ q, farA far x ≤ d) (hup : ∀ x ∈ P ++ q, d ≤ farA far x + 1) (hup' : ∀ y, metA far y → farA far y ≤ d + 1) :
 InvRc ls opn r R (meetFar ls far o d) (P ++ meetQ ls far q o) ∧ (∀ x, metA far x → farA (meetFar ls far o d) x = farA far x) ∧ metA (meetFar ls far o d) o ∧ farA (meetFar ls far o d) o = d := by
 obtain ⟨hin, hun⟩ := meetOk_iff.1 hok; have hl := h.len; have hs := farA_set (far := far) (d := d) hl ⟨hin.1, hin.2.1⟩; have hu : unmetN (far.set (o - 1).toNat d) + 1 = unmetN far := unmet_set _ _ _ ((getD_far hl ⟨hin.1, hin.2.1⟩).trans hun) (by omega); unfold meetFar meetQ; rw [if_pos hok, if_pos hok]; have hso : farA (far.set (o - 1).toNat d) o = d := by rw [hs o hin.1, if_pos rfl]
 have hne : ∀ x, metA far x → x ≠ o := fun x hx e => hx.2.2 (e ▸ hun)
 have hold : ∀ x, metA far x → farA (far.set (o - 1).toNat d) x = farA far x := fun x hx => by rw [hs x hx.1, if_neg (hne x hx)]
 have hmo : metA (far.set (o - 1).toNat d) o := ⟨hin.1, hin.2.1, by rw [hso]; omega⟩; have hm : ∀ x, metA far x → metA (far.set (o - 1).toNat d) x := fun x hx => ⟨hx.1, hx.2.1, by rw [hold x hx]; exact hx.2.2⟩
 have hinv : ∀ x, metA (far.set (o - 1).toNat d) x → x = o ∨ metA far x := fun x hx => by
  by_cases e : x = o
  · exact .inl e
  · have := hx.2.2
    rw [hs x hx.1, if_neg e] at this; exact .inr ⟨hx.1, hx.2.1, this⟩
 refine ⟨⟨by simp [hl], fun x hx => ?_, fun x hx => ?_, fun x hx hin' => ?_, ?_, fun y hy x hx => ?_, fun x hx hq ho v hv hiv => ?_, ?_⟩, hold, hmo, hso⟩
 · rcases hinv x hx with rfl | hx
   · rw [hso]; exact ⟨h0, hin, hlev, by omega⟩
   · rw [hold x hx]; obtain ⟨a, b, c, e⟩ := h.sound x hx; exact ⟨a, b, c, by omega⟩
 · rw [← List.append_assoc, List.mem_append, List.mem_singleton] at hx
   rcases hx with hx | rfl
   · exact hm x (h.qmet x hx)
   · exact hmo
 · by_cases e : x = o
   · subst e; rw [hso]; exact hroot hx
   · rw [hs x hin'.1, if_neg e]; exact h.roots x hx hin'
 · rw [← List.append_assoc, List.pairwise_append]
   refine ⟨List.Pairwise.imp_of_mem (fun {a b} ha hb hab => by rw [hold a (h.qmet a ha), hold b (h.qmet b hb)]; exact hab) h.sorted, by simp, fun a ha b hb => ?_⟩; rw [List.mem_singleton] at hb; subst hb; rw [hso, hold a (h.qmet a ha)]; exact hlo a ha
 · rw [← List.append_assoc, List.mem_append, List.mem_singleton] at hx
   rcases hinv y hy with rfl | hy2
   · rw [hso]
     rcases hx with hx | rfl
     · rw [hold x (h.qmet x hx)]; exact hup x hx
     · rw [hso]; omega
   · rw [hold y hy2]
     rcases hx with hx | rfl
     · rw [hold x (h.qmet x hx)]; exact h.near y hy2 x hx
     · rw [hso]; exact hup' y hy2
 · rw [← List.append_assoc, List.mem_append, List.mem_singleton, not_or] at hq
   rcases hinv x hx with rfl | hx
   · exact absurd rfl hq.2
   · obtain ⟨a, b⟩ := h.done x hx hq.1 ho v hv hiv
     exact ⟨hm v a, by rw [hold v a, hold x hx]; exact b⟩
 · have := h.room
   rw [← List.append_assoc, List.length_append, List.length_singleton]; omega
def RInv (ls : Rws) (opn r : Nat) (R far q : List Int) : Prop := InvRc ls opn r R far q ∧ ∀ x, metA far x → farA far x = 0 ∧ x ∈ q
theorem rinv_start (ls : Rws) (opn r : Nat) : RInv ls opn r [] (List.replicate 64 (-1)) [] := by
 have hf : ∀ x, farA (List.replicate 64 (-1)) x = -1 := fun x => by
  unfold farA; rw [List.getD_eq_getElem?_getD, List.getElem?_replicate]; split <;> rfl
 have hn : ∀ x, ¬ metA (List.replicate 64 (-1)) x := fun x h => h.2.2 (hf x)
 exact ⟨⟨by simp, fun x h => absurd h (hn x), by simp, by simp, by simp, fun y h => absurd h (hn y), fun x h => absurd h (hn x), by decide⟩, fun x h => absurd h (hn x)⟩
theorem rinv_step {ls : Rws} {opn r : Nat} {R far q : List Int} {o : Int} (h : RInv ls opn r R far q) (ho : hasF r o = true) : RInv ls opn r (R ++ [o]) (meetFar ls far o 0) (meetQ ls far q o) := by
 obtain ⟨h1, h2⟩ := h; by_cases hok : meetOk ls far o = true
 · obtain ⟨hin, hun⟩ := meetOk_iff.1 hok
   have hu1 : unmetN far ≤ 64 := by unfold unmetN; have := List.count_le_length (a := (-1 : Int)) (l := far); rw [h1.len] at this; exact this
   have h1' : InvRc ls opn r R far ([] ++ q) := h1; obtain ⟨a, b, c, e⟩ := meet_inv (d := 0) h1' hok (Int.le_refl _) ((has_lev0 ..).2 ⟨ho, hin⟩) (fun _ => rfl) (by omega) (fun x hx => by rw [(h2 x (h1.qmet x hx)).1]; exact Int.le_refl _) (fun x hx => by rw [(h2 x (h1.qmet x hx)).1]; decide) (fun y hy => by rw [(h2 y hy).1]; decide); rw [List.nil_append] at a; refine ⟨⟨a.len, a.sound, a.qmet, fun x hx hi => ?_, a.sorted, a.near, a.done, a.room⟩, fun x hx => ?_⟩
   · rw [List.mem_append, List.mem_singleton] at hx
     rcases hx with hx | rfl
     · exact a.roots x hx hi
     · exact e
   · by_cases hxo : x = o
     · subst hxo; exact ⟨e, by unfold meetQ; rw [if_pos hok]; simp⟩
     · have hx' : metA far x := ⟨hx.1, hx.2.1, by
        have := hx.2.2; unfold meetFar at this; rw [if_pos hok, farA_set h1.len ⟨hin.1, hin.2.1⟩ x hx.1, if_neg hxo] at this; exact this⟩
       rw [b x hx']; exact ⟨(h2 x hx').1, by unfold meetQ; rw [if_pos hok]; simp [(h2 x hx').2]⟩
 · have e1 : meetFar ls far o 0 = far := by unfold meetFar; rw [if_neg hok]
   have e2 : meetQ ls far q o = q := by unfold meetQ; rw [if_neg hok]
   rw [e1, e2]; refine ⟨⟨h1.len, h1.sound, h1.qmet, fun x hx hi => ?_, h1.sorted, h1.near, h1.done, h1.room⟩, h2⟩; rw [List.mem_append, List.mem_singleton] at hx; rcases hx with hx | rfl
   · exact h1.roots x hx hi
   · have : ¬ (inO ls x ∧ farA far x = -1) := fun hh => hok (meetOk_iff.2 hh)
     have hm : metA far x := ⟨hi.1, hi.2.1, fun e => this ⟨hi, e⟩⟩; exact (h2 x hm).1
theorem inv_shut {ls : Rws} {opn r : Nat} {R far q : List Int} {o : Int} (h : InvRc ls opn r R far (o :: q)) (hd : hasF opn o = true → ∀ v ∈ rowF ls o, inO ls v → metA far v ∧ farA far v ≤ farA far o + 1) : InvRc ls opn r R far q :=
 ⟨h.len, h.sound, fun x hx => h.qmet x (List.mem_cons_of_mem _ hx), h.roots, (List.pairwise_cons.1 h.sorted).2, fun y hy x hx => h.near y hy x (List.mem_cons_of_mem _ hx),
  fun x hx hq ho v hv hi => by
   by_cases e : x = o
   · subst e; exact hd ho v hv hi
   · exact h.done x hx (by rw [List.mem_cons, not_or]; exact ⟨e, hq⟩) ho v hv hi,
  by have := h.room; rw [List.length_cons] at this; omega⟩
def MInv (ls : Rws) (opn r : Nat) (R far q : List Int) (o : Int) (k : Nat) : Prop :=
 InvRc ls opn r R far (o :: q) ∧ ∀ v ∈ (rowF ls o).take k, inO ls v → metA far v ∧ farA far v ≤ farA far o + 1
theorem minv_step {ls : Rws} {opn r : Nat} {far q : List Int} {o v : Int} {k : Nat} (h : MInv ls opn r (objs r) far q o k) (ho : hasF opn o = true) (hk : (rowF ls o)[k]? = some v) :
 MInv ls opn r (objs r) (meetFar ls far v (farA far o + 1)) (meetQ ls far q v) o (k + 1) ∧ farA (meetFar ls far v (farA far o + 1)) o = farA far o := by
 obtain ⟨h1, h2⟩ := h; have hmo := h1.qmet o (by simp); obtain ⟨s0, s1, s2, s3⟩ := h1.sound o hmo; have htk : (rowF ls o).take (k + 1) = (rowF ls o).take k ++ [v] := by
  rw [List.take_add_one, hk]; rfl
 by_cases hok : meetOk ls far v = true
 · obtain ⟨hin, hun⟩ := meetOk_iff.1 hok
   have h1' : InvRc ls opn r (objs r) far ([o] ++ q) := h1; obtain ⟨a, b, c, e⟩ := meet_inv (d := farA far o + 1) h1' hok (by omega)
    (by rw [show (farA far o + 1).toNat = (farA far o).toNat + 1 by omega]; exact (has_levS ..).2 (.inr ⟨hin, o, s2, ho, List.mem_of_getElem? hk⟩))
    (fun hr => absurd (h1.roots v hr hin) (by rw [hun]; decide)) (by omega)
    (fun x hx => h1.near x (h1.qmet x hx) o (by simp))
    (fun x hx => by
     rcases List.mem_append.1 hx with hx | hx
     · rw [List.mem_singleton] at hx; subst hx; exact Int.le_refl _
     · have := (List.pairwise_cons.1 h1.sorted).1 x hx; omega)
    (fun y hy => by have := h1.near y hy o (by simp); omega)
   refine ⟨⟨a, fun x hx hi => ?_⟩, b o hmo⟩; rw [htk, List.mem_append, List.mem_singleton] at hx; rw [b o hmo]; rcases hx with hx | rfl
   · obtain ⟨m1, m2⟩ := h2 x hx hi
     have := b x m1; exact ⟨⟨m1.1, m1.2.1, by rw [this]; exact m1.2.2⟩, by rw [this]; exact m2⟩
   · exact ⟨c, by rw [e]; exact Int.le_refl _⟩
 · have e1 : meetFar ls far v (farA far o + 1) = far := by unfold meetFar; rw [if_neg hok]
   have e2 : meetQ ls far q v = q := by unfold meetQ; rw [if_neg hok]
   rw [e1, e2]; refine ⟨⟨h1, fun x hx hi => ?_⟩, rfl⟩; rw [htk, List.mem_append, List.mem_singleton] at hx; rcases hx with hx | rfl
   · exact h2 x hx hi
   · have : ¬ (inO ls x ∧ farA far x = -1) := fun hh => hok (meetOk_iff.2 hh)
     have hm : metA far x := ⟨hi.1, hi.2.1, fun e => this ⟨hi, e⟩⟩; exact ⟨hm, h1.near x hm o (by simp)⟩
theorem inv_end {ls : Rws} {opn r : Nat} {far : List Int} (h : InvRc ls opn r (objs r) far []) : far = (List.range 64).map fun (i : Nat) => dstF ls opn r ((i : Int) + 1) := by
 have key : ∀ k x, hasF (levF ls opn r k) x = true → metA far x ∧ farA far x ≤ k := by
  intro k; induction k with
  | zero =>
    intro x hx; obtain ⟨hr, hi⟩ := (has_lev0 ..).1 hx; have := h.roots x (mem_objs.2 hr) hi; exact ⟨⟨hi.1, hi.2.1, by rw [this]; decide⟩, by rw [this]; exact Int.le_refl _⟩
  | succ k ih =>
    intro x hx; rcases (has_levS ..).1 hx with hx | ⟨hi, y, hy, ho, hm⟩
    · obtain ⟨a, b⟩ := ih x hx; exact ⟨a, by omega⟩
    · obtain ⟨a, b⟩ := ih y hy
      obtain ⟨c, e⟩ := h.done y a (by simp) ho x hm hi; exact ⟨c, by omega⟩
 apply List.ext_getElem?
 intro i; by_cases hi : i < 64
 · rw [List.getElem?_map, List.getElem?_range hi, List.getElem?_eq_getElem (by rw [h.len]; exact hi)]
   simp only [Option.map_some]; congr 1
   have hfi : far[i]'(by rw [h.len]; exact hi) = farA far ((i : Int) + 1) := by
    unfold farA; rw [List.getD_eq_getElem?_getD, show ((i : Int) + 1 - 1).toNat = i by omega, List.getElem?_eq_getElem (by rw [h.len]; exact hi)]; rfl
   rw [hfi]; unfold dstF; rcases hf : (List.range 65).find? fun k => hasF (levF ls opn r k) ((i : Int) + 1) with _ | k
   · apply Decidable.byContradiction
     intro hne; have hm : metA far ((i : Int) + 1) := ⟨by omega, by omega, hne⟩; obtain ⟨s0, s1, s2, s3⟩ := h.sound _ hm; have := List.find?_eq_none.1 hf (farA far ((i : Int) + 1)).toNat (List.mem_range.2 (by omega)); exact this s2
   · obtain ⟨hk, asx, bs, hab, hbef⟩ := List.find?_eq_some_iff_append.1 hf
     obtain ⟨hm, hle⟩ := key k _ hk; obtain ⟨s0, s1, s2, s3⟩ := h.sound _ hm; have hk2 : asx.length = k := by
      have h1 : (List.range 65)[asx.length]? = some k := by rw [hab]; simp
      have h2 : asx.length < 65 := by have := congrArg List.length hab; simp at this; omega
      rw [List.getElem?_range h2] at h1; simpa using h1
     apply Decidable.byContradiction
     intro hne; have hlt : (farA far ((i : Int) + 1)).toNat < asx.length := by
      simp only at hne ⊢
      omega
     have hmem : (farA far ((i : Int) + 1)).toNat ∈ asx := by
      have h1 : (List.range 65)[(farA far ((i : Int) + 1)).toNat]? = some (farA far ((i : Int) + 1)).toNat := List.getElem?_range (by have := congrArg List.length hab; simp at this; omega); rw [hab, List.getElem?_append_left hlt] at h1; exact List.mem_of_getElem? h1
     have := hbef _ hmem; rw [s2] at this; simp at this
 · rw [List.getElem?_eq_none (by rw [h.len]; omega), List.getElem?_eq_none (by simp; omega)]
theorem from_has {ls : Rws} {r : Nat} (hr : r < 18446744073709551616) {x : Int} : hasF (fromF ls r) x = true ↔ Rch ls allNRc r x := has_rch hr
theorem via_has {ls : Rws} {r o : Nat} (hr : r < 18446744073709551616) {x : Int} : hasF (viaF ls r o) x = true ↔ Rch ls (r ||| o) r x := has_rch hr
theorem from_lt (ls : Rws) {r : Nat} (hr : r < 18446744073709551616) : fromF ls r < 18446744073709551616 := lev_lt ls allNRc hr 64
theorem via_lt (ls : Rws) (o : Nat) {r : Nat} (hr : r < 18446744073709551616) : viaF ls r o < 18446744073709551616 := lev_lt ls (r ||| o) hr 64
theorem Rch.mono {ls : Rws} {p q r s : Nat} (hp : ∀ y, hasF p y = true → hasF q y = true) (hr : ∀ y, hasF r y = true → Go.Proofs.YtjbaiibbgplljaaGreatDoor.inO ls y → Rch ls q s y) {x : Int} (h : Rch ls p r x) : Rch ls q s x := by
 induction h with
 | root h hx => exact hr _ h hx
 | step _ ho hm hx ih => exact .step ih (hp _ ho) hm hx
theorem under_hasRc {a b : Nat} (ha : a < 18446744073709551616) (hb : b < 18446744073709551616) : underF a b = true ↔ ∀ x, hasF a x = true → hasF b x = true := by
 rw [under_iff ha hb]; constructor
 · intro h x hx
   have hr := has_rng hx; obtain ⟨i, rfl⟩ : ∃ i : Nat, x = (i : Int) + 1 := ⟨(x - 1).toNat, by omega⟩; rw [has_bit _ _ (by omega)] at hx ⊢; exact h i (by omega) hx
 · intro h i hi hx
   rw [← has_bit _ _ hi] at hx ⊢; exact h _ hx
