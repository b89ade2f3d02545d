/- Layer plan: a plan that is right, by bytes (the law's own helper), as plain functions; a plan with one of its numbers out of its range. -/
import Derived.Test.YtjnokhaojpijhaaGreatDoorPap
namespace Go.Proofs.YtjnokhaojpijhaaGreatDoor
/-- byte i; 0: there is none any more -/
def byteG (l : List Int) (i : Nat) : Int := l.getD i 0
def regG (g : Nat → Int) (n : Int) : Nat → Nat → Int → List Int × Nat
  | 0, i, _ => ([], i)
  | f + 1, i, k => if k < 1 + g i % 3 then (g (i + 1) % (n + 1) :: (regG g n f (i + 2) (k + 1)).1, (regG g n f (i + 2) (k + 1)).2) else ([], i + 1)
def kindT (b : Int) : Int := [1, 1, 2, 2, 2, 3, 4, 5].getD (b % 8).toNat 0
def opG (g : Nat → Int) (regs slots : Int) (i : Nat) : Oq × Nat :=
  if kindT (g i) < 3 then (⟨kindT (g i), g (i + 1) % regs, g (i + 2) % regs, g (i + 3) % slots⟩, i + 4)
  else if kindT (g i) = 4 then (⟨4, g (i + 1) % regs, g (i + 2) % regs, 0⟩, i + 3) else (⟨kindT (g i), g (i + 1) % regs, 0, 0⟩, i + 2)
def opsG (g : Nat → Int) (regs slots : Int) : Nat → Nat → List Oq × Nat
  | 0, i => ([], i)
  | k + 1, i => ((opG g regs slots i).1 :: (opsG g regs slots k (opG g regs slots i).2).1, (opsG g regs slots k (opG g regs slots i).2).2)
def mutG (g : Nat → Int) (n slots : Int) (i : Nat) : (List Int × List Oq) × Nat :=
  (((regG g n 4 i 0).1, (opsG g (regG g n 4 i 0).1.length slots (g (regG g n 4 i 0).2 % 8).toNat ((regG g n 4 i 0).2 + 1)).1), (opsG g (regG g n 4 i 0).1.length slots (g (regG g n 4 i 0).2 % 8).toNat ((regG g n 4 i 0).2 + 1)).2)
def mutsG (g : Nat → Int) (n slots : Int) : Nat → Nat → List (List Int × List Oq) × Nat
  | 0, i => ([], i)
  | k + 1, i => ((mutG g n slots i).1 :: (mutsG g n slots k (mutG g n slots i).2).1, (mutsG g n slots k (mutG g n slots i).2).2)
def objG (g : Nat → Int) (n : Int) (s i : Nat) : List Int := (List.range s).map fun k => g (i + k) % (n + 1)
def objsG (g : Nat → Int) (n : Int) (s : Nat) : Nat → Nat → Rws
  | 0, _ => []
  | k + 1, i => objG g n s i :: objsG g n s k (i + s)
def nG (g : Nat → Int) : Int := 1 + g 8 % 6
def slG (g : Nat → Int) : Int := 1 + g 7 % 2
def rootI (g : Nat → Int) : Nat := 10 + (nG g).toNat * (slG g).toNat
def musG (g : Nat → Int) : List (List Int × List Oq) := (mutsG g (nG g) (slG g) (g 1 % 3).toNat (rootI g + 1)).1
def madeG (g : Nat → Int) : Pq :=
  ⟨1 + g 0 % 3, g 1 % 3, 1 + g 2 % 3, 1 + g 3 % 2, 1 + g 4 % 3, nG g + g 9 % 4, g 5 % 4, g 6 % 4, slG g, objsG g (nG g) (slG g).toNat (nG g).toNat 10, addF 0 (g (rootI g) % (nG g + 1)),
    (musG g).map (·.1), (musG g).map (·.2), []⟩
def whoF (wk mu b : Int) : Int × Int := if wk < b % (1 + wk + mu) then (2, b % (1 + wk + mu) - wk) else if 0 < b % (1 + wk + mu) then (1, b % (1 + wk + mu)) else (0, 0)
def picksG (wk mu : Int) (l : List Int) (most : Nat) : List (Int × Int) := (l.flatMap fun b => List.replicate (b / 64 + 1).toNat (whoF wk mu b)).take most
/-! ### it is right -/
theorem regG_ok (g : Nat → Int) {n : Int} (hn : 0 ≤ n) : ∀ (f i : Nat) (k : Int), ∀ x ∈ (regG g n f i k).1, 0 ≤ x ∧ x ≤ n
  | 0, i, k, x, h => by cases h
  | f + 1, i, k, x, h => by
    rw [regG] at h
    split at h
    · rcases List.mem_cons.1 h with rfl | h
      · have h1 := Int.emod_nonneg (g (i + 1)) (show n + 1 ≠ 0 by omega)
        have h2 := Int.emod_lt_of_pos (g (i + 1)) (show 0 < n + 1 by omega)
        omega
      · exact regG_ok g hn f _ _ x h
    · cases h
theorem regG_len (g : Nat → Int) (n : Int) (i : Nat) : 1 ≤ (regG g n 4 i 0).1.length ∧ (regG g n 4 i 0).1.length ≤ 3 := by
  have h : ∀ j, 0 ≤ g j % 3 ∧ g j % 3 < 3 := fun j => ⟨Int.emod_nonneg _ (by decide), Int.emod_lt_of_pos _ (by decide)⟩
  have h0 := h i
  have h1 := h (i + 2)
  have h2 := h (i + 2 + 2)
  have h3 := h (i + 2 + 2 + 2)
  simp only [regG]
  rw [if_pos (by omega)]
  refine ⟨by simp, ?_⟩
  split
  · split
    · rw [if_neg (by omega)]; simp
    · simp
  · simp
theorem kind_rng (b : Int) : kindT b = 1 ∨ kindT b = 2 ∨ kindT b = 3 ∨ kindT b = 4 ∨ kindT b = 5 := by
  have h1 := Int.emod_nonneg b (show (8 : Int) ≠ 0 by decide)
  have h2 := Int.emod_lt_of_pos b (show (0 : Int) < 8 by decide)
  have : ∀ k : Fin 8, [1, 1, 2, 2, 2, 3, 4, 5].getD k.val (0 : Int) = 1 ∨ [1, 1, 2, 2, 2, 3, 4, 5].getD k.val (0 : Int) = 2 ∨ [1, 1, 2, 2, 2, 3, 4, 5].getD k.val (0 : Int) = 3 ∨ [1, 1, 2, 2, 2, 3, 4, 5].getD k.val (0 : Int) = 4 ∨ [1, 1, 2, 2, 2, 3, 4, 5].getD k.val (0 : Int) = 5 := by decide
  exact this ⟨(b % 8).toNat, by omega⟩
theorem opG_ok (g : Nat → Int) {regs slots : Int} (hr : 1 ≤ regs ∧ regs ≤ 4) (hs : 1 ≤ slots ∧ slots ≤ 4) (i : Nat) : cRight (opG g regs slots i).1 regs slots = true := by
  have hm : ∀ j, 0 ≤ g j % regs ∧ g j % regs < regs := fun j => ⟨Int.emod_nonneg _ (by omega), Int.emod_lt_of_pos _ (by omega)⟩
  have hm2 : ∀ j, 0 ≤ g j % slots ∧ g j % slots < slots := fun j => ⟨Int.emod_nonneg _ (by omega), Int.emod_lt_of_pos _ (by omega)⟩
  have h1 := hm (i + 1)
  have h2 := hm (i + 2)
  have h3 := hm2 (i + 3)
  have hmin : min regs 4 = regs := by omega
  have hmin2 : min slots 4 = slots := by omega
  unfold opG
  split
  · rename_i hk
    unfold cRight
    simp only
    rw [hmin, hmin2, Bool.and_eq_true, decide_eq_true_eq]
    refine ⟨by omega, ?_⟩
    rw [if_pos (by have := kind_rng (g i); omega), decide_eq_true_eq]; omega
  · rename_i hk
    split
    · unfold cRight
      simp only
      rw [hmin, hmin2, Bool.and_eq_true, decide_eq_true_eq]
      refine ⟨by omega, ?_⟩
      rw [if_neg (by omega), if_neg (by omega)]; simp; omega
    · rename_i hk4
      unfold cRight
      simp only
      rw [hmin, hmin2, Bool.and_eq_true, decide_eq_true_eq]
      refine ⟨by omega, ?_⟩
      rw [if_neg (by omega), if_pos (by have := kind_rng (g i); omega)]; simp
theorem opsG_ok (g : Nat → Int) {regs slots : Int} (hr : 1 ≤ regs ∧ regs ≤ 4) (hs : 1 ≤ slots ∧ slots ≤ 4) : ∀ (k i : Nat), (∀ o ∈ (opsG g regs slots k i).1, cRight o regs slots = true) ∧ (opsG g regs slots k i).1.length = k
  | 0, i => ⟨fun _ h => (List.not_mem_nil h).elim, rfl⟩
  | k + 1, i => by
    have ih := opsG_ok g hr hs k (opG g regs slots i).2
    rw [opsG]
    refine ⟨fun o h => ?_, by rw [List.length_cons, ih.2]⟩
    rcases List.mem_cons.1 h with rfl | h
    · exact opG_ok g hr hs i
    · exact ih.1 o h
theorem mutG_ok (g : Nat → Int) {n : Nat} {slots : Int} (hs : 1 ≤ slots ∧ slots ≤ 4) (i : Nat) : mutF n slots (mutG g n slots i).1 = true := by
  have hl := regG_len g n i
  have ho := opsG_ok g (regs := ((regG g n 4 i 0).1.length : Int)) (by omega) hs (g (regG g n 4 i 0).2 % 8).toNat ((regG g n 4 i 0).2 + 1)
  unfold mutF regsF cFits mutG
  simp only [Bool.and_eq_true, List.all_eq_true, decide_eq_true_eq]
  refine ⟨⟨fun x hx => regG_ok g (by omega) 4 i 0 x hx, by omega⟩, ho.1, ?_⟩
  rw [ho.2]
  have h2 := Int.emod_lt_of_pos (g (regG g n 4 i 0).2) (show (0 : Int) < 8 by decide)
  omega
theorem mutsG_ok (g : Nat → Int) {n : Nat} {slots : Int} (hs : 1 ≤ slots ∧ slots ≤ 4) : ∀ (k i : Nat), (∀ x ∈ (mutsG g n slots k i).1, mutF n slots x = true) ∧ (mutsG g n slots k i).1.length = k
  | 0, i => ⟨fun _ h => (List.not_mem_nil h).elim, rfl⟩
  | k + 1, i => by
    have ih := mutsG_ok g (n := n) hs k (mutG g n slots i).2
    rw [mutsG]
    refine ⟨fun o h => ?_, by rw [List.length_cons, ih.2]⟩
    rcases List.mem_cons.1 h with rfl | h
    · exact mutG_ok g hs i
    · exact ih.1 o h
theorem objsG_ok (g : Nat → Int) {n : Int} (hn : 0 ≤ n) (s : Nat) : ∀ (k i : Nat), (∀ l ∈ objsG g n s k i, (l.length : Int) = s ∧ ∀ v ∈ l, 0 ≤ v ∧ v ≤ n) ∧ (objsG g n s k i).length = k
  | 0, i => ⟨fun _ h => (List.not_mem_nil h).elim, rfl⟩
  | k + 1, i => by
    have ih := objsG_ok g hn s k (i + s)
    rw [objsG]
    refine ⟨fun l h => ?_, by rw [List.length_cons, ih.2]⟩
    rcases List.mem_cons.1 h with rfl | h
    · refine ⟨by simp [objG], fun v hv => ?_⟩
      obtain ⟨j, _, rfl⟩ := List.mem_map.1 hv
      have h1 := Int.emod_nonneg (g (i + j)) (show n + 1 ≠ 0 by omega)
      have h2 := Int.emod_lt_of_pos (g (i + j)) (show 0 < n + 1 by omega)
      omega
    · exact ih.1 l h
theorem mG (g : Nat → Int) (j : Nat) (k : Int) (hk : 0 < k) : 0 ≤ g j % k ∧ g j % k < k := ⟨Int.emod_nonneg _ (by omega), Int.emod_lt_of_pos _ hk⟩
theorem zip_maps {α β : Type} (l : List (α × β)) : (l.map (·.1)).zip (l.map (·.2)) = l := by
  induction l with
  | nil => rfl
  | cons x l ih => simp [ih]
/-- a plan by bytes is right, whatever is picked of those that are there -/
theorem made_right (g : Nat → Int) {ps : List (Int × Int)} (hp : ps.length ≤ 100000) (ht : ∀ x ∈ ps, there x (1 + g 0 % 3) (g 1 % 3) = true) : PRt { madeG g with pk := ps } := by
  have h0 := mG g 0 3 (by decide)
  have h1 := mG g 1 3 (by decide)
  have h2 := mG g 2 3 (by decide)
  have h3 := mG g 3 2 (by decide)
  have h4 := mG g 4 3 (by decide)
  have h5 := mG g 5 4 (by decide)
  have h6 := mG g 6 4 (by decide)
  have h7 := mG g 7 2 (by decide)
  have h8 := mG g 8 6 (by decide)
  have h9 := mG g 9 4 (by decide)
  have hn : 1 ≤ nG g ∧ nG g ≤ 6 := by unfold nG; omega
  have hs : 1 ≤ slG g ∧ slG g ≤ 2 := by unfold slG; omega
  have hob := objsG_ok g (n := nG g) (by omega) (slG g).toNat (nG g).toNat 10
  have hm := mutsG_ok g (n := (nG g).toNat) (slots := slG g) (by omega) (g 1 % 3).toNat (rootI g + 1)
  rw [show (((nG g).toNat : Nat) : Int) = nG g by omega] at hm
  have hr := mG g (rootI g) (nG g + 1) (by omega)
  refine ⟨?_, ?_, ?_, ?_, ?_, ?_, hp, ht⟩
  · unfold pRng madeG; simp only; omega
  · show rightF (slG g) (objsG g (nG g) (slG g).toNat (nG g).toNat 10) = true
    refine right_of ⟨by omega, by omega, by rw [hob.2]; omega⟩ fun l hl => ?_
    have := hob.1 l hl
    exact ⟨by omega, fun v hv => by rw [hob.2]; have := this.2 v hv; omega⟩
  · show (((objsG g (nG g) (slG g).toNat (nG g).toNat 10).length : Nat) : Int) ≤ nG g + g 9 % 4 ∧ nG g + g 9 % 4 ≤ 64
    rw [hob.2]; omega
  · show underF (addF 0 (g (rootI g) % (nG g + 1))) (firstF (((objsG g (nG g) (slG g).toNat (nG g).toNat 10).length : Nat) : Int)) = true
    rw [hob.2, under_hasRc (add_lt (by decide) _) (first_lt _)]
    intro x hx
    rw [has_first, decide_eq_true_eq]
    have h64 := has_rng hx
    have h1 : x = g (rootI g) % (nG g + 1) := by
      have := has_bit (addF 0 (g (rootI g) % (nG g + 1))) (x - 1).toNat (by omega)
      rw [show (((x - 1).toNat : Nat) : Int) + 1 = x by omega, hx, testBit_add] at this
      simp at this
      omega
    omega
  · show ((((musG g).map (·.1)).length : Nat) : Int) = g 1 % 3 ∧ ((((musG g).map (·.2)).length : Nat) : Int) = g 1 % 3
    rw [List.length_map, List.length_map]
    unfold musG
    rw [hm.2]; omega
  · show ∀ x ∈ ((musG g).map (·.1)).zip ((musG g).map (·.2)), mutF (objsG g (nG g) (slG g).toNat (nG g).toNat 10).length (slG g) x = true
    rw [zip_maps, hob.2]
    exact hm.1
theorem who_there {wk mu b : Int} (hw : 0 ≤ wk ∧ wk ≤ 16) (hm : 0 ≤ mu ∧ mu ≤ 16) : there (whoF wk mu b) wk mu = true := by
  have h1 := Int.emod_nonneg b (show 1 + wk + mu ≠ 0 by omega)
  have h2 := Int.emod_lt_of_pos b (show 0 < 1 + wk + mu by omega)
  unfold whoF
  split
  · unfold there right; simp; omega
  · split
    · unfold there right; simp; omega
    · rfl
theorem picks_there {wk mu : Int} (hw : 0 ≤ wk ∧ wk ≤ 16) (hm : 0 ≤ mu ∧ mu ≤ 16) (l : List Int) (most : Nat) : (picksG wk mu l most).length ≤ most ∧ ∀ x ∈ picksG wk mu l most, there x wk mu = true := by
  refine ⟨by unfold picksG; rw [List.length_take]; omega, fun x hx => ?_⟩
  obtain ⟨b, _, hb⟩ := List.mem_flatMap.1 (List.mem_of_mem_take hx)
  obtain ⟨_, rfl⟩ := List.mem_replicate.1 hb
  exact who_there hw hm
/-! ### one number out of its range -/
def turnQ (k : Nat) (p : Pq) : Pq :=
  match k with
  | 0 => { p with wk := 0 }
  | 1 => { p with wk := 17 }
  | 2 => { p with mu := p.mu + 1 }
  | 3 => { p with mu := -1 }
  | 4 => { p with cp := 0 }
  | 5 => { p with cp := 17 }
  | 6 => { p with bf := 9 }
  | 7 => { p with bn := 0 }
  | 8 => { p with mo := p.ob.length - 1 }
  | 9 => { p with mo := 65 }
  | 10 => { p with pr := -1 }
  | 11 => { p with li := 1000001 }
  | 12 => { p with ro := addF p.ro (p.ob.length + 1) }
  | 13 => { p with sl := 5 }
  | 14 => { p with rg := [0] :: p.rg }
  | _ => { p with pk := picksG p.wk p.mu [0] 9 ++ picksG 16 0 [16] 1 }
theorem not_right {p : Pq} (h : ¬ PRt p) : pRight p = false := by rw [Bool.eq_false_iff]; exact fun e => h (pRight_iff.1 e)
theorem turn_wrong {p : Pq} (h : PRt p) (hw : p.wk < 16) (hl : p.ob.length < 64) (hs : p.ro < 18446744073709551616) {k : Nat} (hk : k < 16) : pRight (turnQ k p) = false := by
  refine not_right fun q => ?_
  have r := q.rng
  have m := q.most
  have l := q.lens
  have r0 := h.rng
  have m0 := h.most
  have l0 := h.lens
  unfold pRng at r r0
  match k, hk with
  | 0, _ => simp only [turnQ] at r; omega
  | 1, _ => simp only [turnQ] at r; omega
  | 2, _ => simp only [turnQ] at l; omega
  | 3, _ => simp only [turnQ] at r; omega
  | 4, _ => simp only [turnQ] at r; omega
  | 5, _ => simp only [turnQ] at r; omega
  | 6, _ => simp only [turnQ] at r; omega
  | 7, _ => simp only [turnQ] at r; omega
  | 8, _ => simp only [turnQ] at m; omega
  | 9, _ => simp only [turnQ] at m; omega
  | 10, _ => simp only [turnQ] at r; omega
  | 11, _ => simp only [turnQ] at r; omega
  | 12, _ =>
    have u := (under_hasRc (add_lt hs _) (first_lt _)).1 q.und ((p.ob.length : Int) + 1) (by
      have := has_bit (addF p.ro ((p.ob.length : Int) + 1)) p.ob.length hl
      rw [testBit_add] at this
      show hasF (addF p.ro ((p.ob.length : Int) + 1)) _ = true
      rw [this]; simp [hl])
    rw [has_first, decide_eq_true_eq] at u
    have e : (turnQ 12 p).ob = p.ob := rfl
    rw [e] at u
    omega
  | 13, _ =>
    have := right_len q.hp
    have e : (turnQ 13 p).sl = 5 := rfl
    omega
  | 14, _ => simp only [turnQ, List.length_cons] at l; omega
  | 15, _ =>
    have ht := q.picks (1, 16) (by
      show (1, 16) ∈ picksG p.wk p.mu [0] 9 ++ picksG 16 0 [16] 1
      rw [List.mem_append]; exact .inr (by decide))
    have e : (turnQ 15 p).wk = p.wk := rfl
    rw [e] at ht
    unfold there right at ht
    simp at ht
    omega
  | k + 16, hk => omega
theorem made_small (g : Nat → Int) : (madeG g).wk < 16 ∧ (madeG g).ob.length < 64 ∧ (madeG g).ro < 18446744073709551616 := by
  have h0 := mG g 0 3 (by decide)
  have h8 := mG g 8 6 (by decide)
  refine ⟨?_, ?_, add_lt (by decide) _⟩
  · show 1 + g 0 % 3 < 16; omega
  · show (objsG g (nG g) (slG g).toNat (nG g).toNat 10).length < 64
    have hn : 1 ≤ nG g ∧ nG g ≤ 6 := by unfold nG; omega
    rw [(objsG_ok g (by omega) _ _ _).2]; omega
end Go.Proofs.YtjnokhaojpijhaaGreatDoor
