import Derived.Test.YtdmbcjckgfjcaaaGreatDoorRad
/- Layer plan: what is grey at the start, and what is live, as plain facts. -/
namespace Go.Proofs.YtdmbcjckgfjcaaaGreatDoor
theorem grey_fold (x : Int) : ∀ (l : Rws) (s : Nat), hasF (l.foldl (fun s l => s ||| ofF l) s) x = true ↔ hasF s x = true ∨ ∃ r ∈ l, hasF (ofF r) x = true
  | [], s => by simp
  | r :: l, s => by
    rw [List.foldl_cons, grey_fold x l, has_orRc, Bool.or_eq_true]
    constructor
    · rintro ((h | h) | ⟨q, hq, h⟩)
      · exact .inl h
      · exact .inr ⟨r, by simp, h⟩
      · exact .inr ⟨q, by simp [hq], h⟩
    · rintro (h | ⟨q, hq, h⟩)
      · exact .inl (.inl h)
      · rcases List.mem_cons.1 hq with rfl | hq
        · exact .inl (.inr h)
        · exact .inr ⟨q, hq, h⟩
theorem grey_has {p : Pq} (x : Int) : hasF (pGreys p) x = true ↔ hasF p.ro x = true ∨ ∃ r ∈ p.rg, (1 ≤ x ∧ x ≤ 64) ∧ x ∈ r := by
  unfold pGreys
  rw [grey_fold]
  simp only [has_of, Bool.and_eq_true, decide_eq_true_eq]
theorem grey_fold_lt : ∀ (l : Rws) {s : Nat}, s < 18446744073709551616 → l.foldl (fun s l => s ||| ofF l) s < 18446744073709551616
  | [], _, h => h
  | r :: l, s, h => by rw [List.foldl_cons]; exact grey_fold_lt l (lor_lt h (ofF_lt r))
theorem grey_lt {p : Pq} (hs : p.ro < 18446744073709551616) : pGreys p < 18446744073709551616 := grey_fold_lt _ hs
theorem zip_mem {α β : Type} : ∀ {a : List α} {b : List β}, a.length = b.length → ∀ x ∈ a, ∃ y, (x, y) ∈ a.zip b
  | [], _, _, x, h => by cases h
  | _ :: _, [], h, _, _ => by cases h
  | z :: a, y :: b, h, x, hx => by
    rcases List.mem_cons.1 hx with rfl | hx
    · exact ⟨y, by simp⟩
    · obtain ⟨y', hy⟩ := zip_mem (a := a) (b := b) (by simpa using h) x hx
      exact ⟨y', by simp [hy]⟩
theorem regs_of {p : Pq} (h : PRt p) {r : List Int} (hr : r ∈ p.rg) : (∀ x ∈ r, 0 ≤ x ∧ x ≤ (p.ob.length : Int)) ∧ 1 ≤ r.length ∧ r.length ≤ 4 := by
  obtain ⟨y, hy⟩ := zip_mem (a := p.rg) (b := p.pg) (by have := h.lens; omega) r hr
  have := h.muts _ hy
  unfold mutF at this
  rw [Bool.and_eq_true] at this
  exact regs_ok this.1
theorem grey_in {p : Pq} (h : PRt p) (hs : p.ro < 18446744073709551616) {x : Int} (hx : hasF (pGreys p) x = true) : inO p.ob x := by
  rcases (grey_has x).1 hx with h1 | ⟨r, hr, h1, h2⟩
  · have := (under_hasRc hs (first_lt _)).1 h.und x h1
    rw [has_first, decide_eq_true_eq] at this
    exact this
  · have := (regs_of h hr).1 x h2
    unfold inO; omega
theorem cnt_firstPl : ∀ n : Nat, n ≤ 64 → cntF (firstF n) ≤ n := by
  intro n hn
  have : ∀ k : Fin 65, cntF (firstF (k.val : Int)) ≤ k.val := by decide +kernel
  exact this ⟨n, by omega⟩
theorem cnt_grey {p : Pq} (h : PRt p) (hs : p.ro < 18446744073709551616) : (cntF (pGreys p) : Int) < pBins p := by
  have h1 : cntF (pGreys p) ≤ p.ob.length := by
    have h2 := right_ob h
    have h3 : cntF (pGreys p) ≤ cntF (firstF p.ob.length) := by
      rcases cnt_more (grey_lt hs) (first_lt p.ob.length) (fun o ho => by have := grey_in h hs ho; rw [has_first, decide_eq_true_eq]; exact this) with e | e
      · rw [e]; exact Nat.le_refl _
      · omega
    exact Nat.le_trans h3 (cnt_firstPl _ h2)
  have := h.most
  have := h.rng
  unfold pRng at this
  unfold pBins; omega
end Go.Proofs.YtdmbcjckgfjcaaaGreatDoor
/- Layer plan: what is right, part by part, as plain facts. No program in this text. -/
namespace Go.Proofs.YtdmbcjckgfjcaaaGreatDoor
def inP (n a b : Int) : Bool := decide (a ≤ n ∧ n ≤ b)
theorem regs_take {n : Nat} {l : List Int} {i : Nat} (h : i < l.length) (ha : (l.take i).all (fun x => decide (0 ≤ x ∧ x ≤ (n : Int))) = true) : (l.take (i + 1)).all (fun x => decide (0 ≤ x ∧ x ≤ (n : Int))) = inP l[i] 0 n := by
  rw [List.take_succ_eq_append_getElem h, List.all_append, ha, Bool.true_and, List.all_cons, List.all_nil, Bool.and_true]; rfl
theorem regs_stop {n : Nat} {l : List Int} {i : Nat} (h : i < l.length) (hx : inP l[i] 0 n = false) : regsF n l = false := by
  unfold regsF
  rw [Bool.and_eq_false_iff]
  left
  rw [Bool.eq_false_iff]
  intro e
  have := List.all_eq_true.1 e l[i] (List.getElem_mem h)
  unfold inP at hx
  rw [hx] at this; cases this
theorem regs_end {n : Nat} {l : List Int} (ha : l.all (fun x => decide (0 ≤ x ∧ x ≤ (n : Int))) = true) : regsF n l = inP l.length 1 4 := by
  unfold regsF inP
  rw [ha, Bool.true_and]
  congr 1
  rw [eq_iff_iff]; omega
def numsBPl (p : Pq) : Bool := inP p.wk 1 16 && (inP p.mu 0 16 && (inP p.cp 1 16 && (inP p.bf 1 8 && (inP p.bn 1 8 && (inP p.pr 0 1000000 && inP p.li 0 1000000)))))
def heapB (p : Pq) : Bool := rightF p.sl p.ob && (inP p.mo p.ob.length 64 && underF p.ro (firstF p.ob.length))
def mutsB (p : Pq) : Bool := decide ((p.rg.length : Int) = p.mu ∧ (p.pg.length : Int) = p.mu) && (p.rg.zip p.pg).all (mutF p.ob.length p.sl)
def picksB (p : Pq) : Bool := decide (p.pk.length ≤ 100000) && p.pk.all fun x => there x p.wk p.mu
theorem nums_iff {p : Pq} : numsBPl p = true ↔ pRng p := by
  unfold numsBPl inP pRng
  simp only [Bool.and_eq_true, decide_eq_true_eq]
  omega
theorem pRight_four (p : Pq) : pRight p = (numsBPl p && (heapB p && (mutsB p && picksB p))) := by
  rw [Bool.eq_iff_iff, pRight_iff]
  simp only [Bool.and_eq_true, nums_iff, heapB, mutsB, picksB, inP, decide_eq_true_eq, List.all_eq_true]
  exact ⟨fun h => ⟨h.rng, ⟨h.hp, h.most, h.und⟩, ⟨h.lens, h.muts⟩, h.len, h.picks⟩, fun ⟨a, ⟨b, c, d⟩, ⟨e, f⟩, g, h⟩ => ⟨a, b, c, d, e, f, g, h⟩⟩
/-- the machines, one by one, from i on -/
theorem zip_at {α β : Type} {a : List α} {b : List β} {i : Nat} (h : i < a.length) (h2 : i < b.length) : (a.zip b)[i]'(by rw [List.length_zip]; omega) = (a[i], b[i]) := List.getElem_zip
theorem muts_take {n : Nat} {sl : Int} {a : Rws} {b : List (List Oq)} {i : Nat} (h : i < a.length) (h2 : i < b.length) (ha : ((a.zip b).take i).all (mutF n sl) = true) (hx : mutF n sl (a[i], b[i]) = true) : ((a.zip b).take (i + 1)).all (mutF n sl) = true := by
  rw [List.take_succ_eq_append_getElem (by rw [List.length_zip]; omega), List.all_append, ha, zip_at h h2]
  simp [hx]
theorem muts_stop {n : Nat} {sl : Int} {a : Rws} {b : List (List Oq)} {i : Nat} (h : i < a.length) (h2 : i < b.length) (hx : mutF n sl (a[i], b[i]) = false) : (a.zip b).all (mutF n sl) = false := by
  rw [Bool.eq_false_iff]
  intro e
  have := List.all_eq_true.1 e _ (List.getElem_mem (l := a.zip b) (n := i) (by rw [List.length_zip]; omega))
  rw [zip_at h h2, hx] at this
  cases this
theorem muts_end {n : Nat} {sl : Int} {a : Rws} {b : List (List Oq)} (hl : a.length = b.length) (ha : ((a.zip b).take a.length).all (mutF n sl) = true) : (a.zip b).all (mutF n sl) = true := by
  rwa [List.take_of_length_le (by rw [List.length_zip]; omega)] at ha
end Go.Proofs.YtdmbcjckgfjcaaaGreatDoor
/- Layer plan: a plan that is right, by bytes (the law's own helper), as plain functions; a plan with one of its numbers out of its range. -/
namespace Go.Proofs.YtdmbcjckgfjcaaaGreatDoor
/-- byte i; 0: there is none any more -/
def byteG (l : List Int) (i : Nat) : Int := l.getD i 0
def regG (g : Nat → Int) (n : Int) : Nat → Nat → Int → List Int × Nat
  | 0, i, _ => ([], i)
  | f + 1, i, k => if k < 1 + g i % 3 then (g (i + 1) % (n + 1) :: (regG g n f (i + 2) (k + 1)).1, (regG g n f (i + 2) (k + 1)).2) else ([], i + 1)
def kindT (b : Int) : Int := [1, 1, 2, 2, 2, 3, 4, 5].getD (b % 8).toNat 0
def opG (g : Nat → Int) (regs slots : Int) (i : Nat) : Oq × Nat :=
  if kindT (g i) < 3 then (⟨kindT (g i), g (i + 1) % regs, g (i + 2) % regs, g (i + 3) % slots⟩, i + 4)
  else if kindT (g i) = 4 then (⟨4, g (i + 1) % regs, g (i + 2) % regs, 0⟩, i + 3) else (⟨kindT (g i), g (i + 1) % regs, 0, 0⟩, i + 2)
def opsG (g : Nat → Int) (regs slots : Int) : Nat → Nat → List Oq × Nat
  | 0, i => ([], i)
  | k + 1, i => ((opG g regs slots i).1 :: (opsG g regs slots k (opG g regs slots i).2).1, (opsG g regs slots k (opG g regs slots i).2).2)
def mutG (g : Nat → Int) (n slots : Int) (i : Nat) : (List Int × List Oq) × Nat :=
  (((regG g n 4 i 0).1, (opsG g (regG g n 4 i 0).1.length slots (g (regG g n 4 i 0).2 % 8).toNat ((regG g n 4 i 0).2 + 1)).1), (opsG g (regG g n 4 i 0).1.length slots (g (regG g n 4 i 0).2 % 8).toNat ((regG g n 4 i 0).2 + 1)).2)
def mutsG (g : Nat → Int) (n slots : Int) : Nat → Nat → List (List Int × List Oq) × Nat
  | 0, i => ([], i)
  | k + 1, i => ((mutG g n slots i).1 :: (mutsG g n slots k (mutG g n slots i).2).1, (mutsG g n slots k (mutG g n slots i).2).2)
def objG (g : Nat → Int) (n : Int) (s i : Nat) : List Int := (List.range s).map fun k => g (i + k) % (n + 1)
def objsG (g : Nat → Int) (n : Int) (s : Nat) : Nat → Nat → Rws
  | 0, _ => []
  | k + 1, i => objG g n s i :: objsG g n s k (i + s)
def nG (g : Nat → Int) : Int := 1 + g 8 % 6
def slG (g : Nat → Int) : Int := 1 + g 7 % 2
def rootI (g : Nat → Int) : Nat := 10 + (nG g).toNat * (slG g).toNat
def musG (g : Nat → Int) : List (List Int × List Oq) := (mutsG g (nG g) (slG g) (g 1 % 3).toNat (rootI g + 1)).1
def madeG (g : Nat → Int) : Pq :=
  ⟨1 + g 0 % 3, g 1 % 3, 1 + g 2 % 3, 1 + g 3 % 2, 1 + g 4 % 3, nG g + g 9 % 4, g 5 % 4, g 6 % 4, slG g, objsG g (nG g) (slG g).toNat (nG g).toNat 10, addF 0 (g (rootI g) % (nG g + 1)),
    (musG g).map (·.1), (musG g).map (·.2), []⟩
theorem regG_ok (g : Nat → Int) {n : Int} (hn : 0 ≤ n) : ∀ (f i : Nat) (k : Int), ∀ x ∈ (regG g n f i k).1, 0 ≤ x ∧ x ≤ n
  | 0, i, k, x, h => by cases h
  | f + 1, i, k, x, h => by
    rw [regG] at h
    split at h
    · rcases List.mem_cons.1 h with rfl | h
      · have h1 := Int.emod_nonneg (g (i + 1)) (show n + 1 ≠ 0 by omega)
        have h2 := Int.emod_lt_of_pos (g (i + 1)) (show 0 < n + 1 by omega)
        omega
      · exact regG_ok g hn f _ _ x h
    · cases h
theorem regG_len (g : Nat → Int) (n : Int) (i : Nat) : 1 ≤ (regG g n 4 i 0).1.length ∧ (regG g n 4 i 0).1.length ≤ 3 := by
  have h : ∀ j, 0 ≤ g j % 3 ∧ g j % 3 < 3 := fun j => ⟨Int.emod_nonneg _ (by decide), Int.emod_lt_of_pos _ (by decide)⟩
  have h0 := h i
  have h1 := h (i + 2)
  have h2 := h (i + 2 + 2)
  have h3 := h (i + 2 + 2 + 2)
  simp only [regG]
  rw [if_pos (by omega)]
  refine ⟨by simp, ?_⟩
  split
  · split
    · rw [if_neg (by omega)]; simp
    · simp
  · simp
theorem kind_rng (b : Int) : kindT b = 1 ∨ kindT b = 2 ∨ kindT b = 3 ∨ kindT b = 4 ∨ kindT b = 5 := by
  have h1 := Int.emod_nonneg b (show (8 : Int) ≠ 0 by decide)
  have h2 := Int.emod_lt_of_pos b (show (0 : Int) < 8 by decide)
  have : ∀ k : Fin 8, [1, 1, 2, 2, 2, 3, 4, 5].getD k.val (0 : Int) = 1 ∨ [1, 1, 2, 2, 2, 3, 4, 5].getD k.val (0 : Int) = 2 ∨ [1, 1, 2, 2, 2, 3, 4, 5].getD k.val (0 : Int) = 3 ∨ [1, 1, 2, 2, 2, 3, 4, 5].getD k.val (0 : Int) = 4 ∨ [1, 1, 2, 2, 2, 3, 4, 5].getD k.val (0 : Int) = 5 := by decide
  exact this ⟨(b % 8).toNat, by omega⟩
theorem opG_ok (g : Nat → Int) {regs slots : Int} (hr : 1 ≤ regs ∧ regs ≤ 4) (hs : 1 ≤ slots ∧ slots ≤ 4) (i : Nat) : cRight (opG g regs slots i).1 regs slots = true := by
  have hm : ∀ j, 0 ≤ g j % regs ∧ g j % regs < regs := fun j => ⟨Int.emod_nonneg _ (by omega), Int.emod_lt_of_pos _ (by omega)⟩
  have hm2 : ∀ j, 0 ≤ g j % slots ∧ g j % slots < slots := fun j => ⟨Int.emod_nonneg _ (by omega), Int.emod_lt_of_pos _ (by omega)⟩
  have h1 := hm (i + 1)
  have h2 := hm (i + 2)
  have h3 := hm2 (i + 3)
  have hmin : min regs 4 = regs := by omega
  have hmin2 : min slots 4 = slots := by omega
  unfold opG
  split
  · rename_i hk
    unfold cRight
    simp only
    rw [hmin, hmin2, Bool.and_eq_true, decide_eq_true_eq]
    refine ⟨by omega, ?_⟩
    rw [if_pos (by have := kind_rng (g i); omega), decide_eq_true_eq]; omega
  · rename_i hk
    split
    · unfold cRight
      simp only
      rw [hmin, hmin2, Bool.and_eq_true, decide_eq_true_eq]
      refine ⟨by omega, ?_⟩
      rw [if_neg (by omega), if_neg (by omega)]; simp; omega
    · rename_i hk4
      unfold cRight
      simp only
      rw [hmin, hmin2, Bool.and_eq_true, decide_eq_true_eq]
      refine ⟨by omega, ?_⟩
      rw [if_neg (by omega), if_pos (by have := kind_rng (g i); omega)]; simp
theorem opsG_ok (g : Nat → Int) {regs slots : Int} (hr : 1 ≤ regs ∧ regs ≤ 4) (hs : 1 ≤ slots ∧ slots ≤ 4) : ∀ (k i : Nat), (∀ o ∈ (opsG g regs slots k i).1, cRight o regs slots = true) ∧ (opsG g regs slots k i).1.length = k
  | 0, i => ⟨fun _ h => (List.not_mem_nil h).elim, rfl⟩
  | k + 1, i => by
    have ih := opsG_ok g hr hs k (opG g regs slots i).2
    rw [opsG]
    refine ⟨fun o h => ?_, by rw [List.length_cons, ih.2]⟩
    rcases List.mem_cons.1 h with rfl | h
    · exact opG_ok g hr hs i
    · exact ih.1 o h
theorem mutG_ok (g : Nat → Int) {n : Nat} {slots : Int} (hs : 1 ≤ slots ∧ slots ≤ 4) (i : Nat) : mutF n slots (mutG g n slots i).1 = true := by
  have hl := regG_len g n i
  have ho := opsG_ok g (regs := ((regG g n 4 i 0).1.length : Int)) (by omega) hs (g (regG g n 4 i 0).2 % 8).toNat ((regG g n 4 i 0).2 + 1)
  unfold mutF regsF cFits mutG
  simp only [Bool.and_eq_true, List.all_eq_true, decide_eq_true_eq]
  refine ⟨⟨fun x hx => regG_ok g (by omega) 4 i 0 x hx, by omega⟩, ho.1, ?_⟩
  rw [ho.2]
  have h2 := Int.emod_lt_of_pos (g (regG g n 4 i 0).2) (show (0 : Int) < 8 by decide)
  omega
theorem mutsG_ok (g : Nat → Int) {n : Nat} {slots : Int} (hs : 1 ≤ slots ∧ slots ≤ 4) : ∀ (k i : Nat), (∀ x ∈ (mutsG g n slots k i).1, mutF n slots x = true) ∧ (mutsG g n slots k i).1.length = k
  | 0, i => ⟨fun _ h => (List.not_mem_nil h).elim, rfl⟩
  | k + 1, i => by
    have ih := mutsG_ok g (n := n) hs k (mutG g n slots i).2
    rw [mutsG]
    refine ⟨fun o h => ?_, by rw [List.length_cons, ih.2]⟩
    rcases List.mem_cons.1 h with rfl | h
    · exact mutG_ok g hs i
    · exact ih.1 o h
theorem objsG_ok (g : Nat → Int) {n : Int} (hn : 0 ≤ n) (s : Nat) : ∀ (k i : Nat), (∀ l ∈ objsG g n s k i, (l.length : Int) = s ∧ ∀ v ∈ l, 0 ≤ v ∧ v ≤ n) ∧ (objsG g n s k i).length = k
  | 0, i => ⟨fun _ h => (List.not_mem_nil h).elim, rfl⟩
  | k + 1, i => by
    have ih := objsG_ok g hn s k (i + s)
    rw [objsG]
    refine ⟨fun l h => ?_, by rw [List.length_cons, ih.2]⟩
    rcases List.mem_cons.1 h with rfl | h
    · refine ⟨by simp [objG], fun v hv => ?_⟩
      obtain ⟨j, _, rfl⟩ := List.mem_map.1 hv
      have h1 := Int.emod_nonneg (g (i + j)) (show n + 1 ≠ 0 by omega)
      have h2 := Int.emod_lt_of_pos (g (i + j)) (show 0 < n + 1 by omega)
      omega
    · exact ih.1 l h
theorem mG (g : Nat → Int) (j : Nat) (k : Int) (hk : 0 < k) : 0 ≤ g j % k ∧ g j % k < k := ⟨Int.emod_nonneg _ (by omega), Int.emod_lt_of_pos _ hk⟩
theorem zip_maps {α β : Type} (l : List (α × β)) : (l.map (·.1)).zip (l.map (·.2)) = l := by
  induction l with
  | nil => rfl
  | cons x l ih => simp [ih]
/-- a plan by bytes is right, whatever is picked of those that are there -/
theorem made_right (g : Nat → Int) {ps : List (Int × Int)} (hp : ps.length ≤ 100000) (ht : ∀ x ∈ ps, there x (1 + g 0 % 3) (g 1 % 3) = true) : PRt { madeG g with pk := ps } := by
  have h0 := mG g 0 3 (by decide)
  have h1 := mG g 1 3 (by decide)
  have h2 := mG g 2 3 (by decide)
  have h3 := mG g 3 2 (by decide)
  have h4 := mG g 4 3 (by decide)
  have h5 := mG g 5 4 (by decide)
  have h6 := mG g 6 4 (by decide)
  have h7 := mG g 7 2 (by decide)
  have h8 := mG g 8 6 (by decide)
  have h9 := mG g 9 4 (by decide)
  have hn : 1 ≤ nG g ∧ nG g ≤ 6 := by unfold nG; omega
  have hs : 1 ≤ slG g ∧ slG g ≤ 2 := by unfold slG; omega
  have hob := objsG_ok g (n := nG g) (by omega) (slG g).toNat (nG g).toNat 10
  have hm := mutsG_ok g (n := (nG g).toNat) (slots := slG g) (by omega) (g 1 % 3).toNat (rootI g + 1)
  rw [show (((nG g).toNat : Nat) : Int) = nG g by omega] at hm
  have hr := mG g (rootI g) (nG g + 1) (by omega)
  refine ⟨?_, ?_, ?_, ?_, ?_, ?_, hp, ht⟩
  · unfold pRng madeG; simp only; omega
  · show rightF (slG g) (objsG g (nG g) (slG g).toNat (nG g).toNat 10) = true
    refine right_of ⟨by omega, by omega, by rw [hob.2]; omega⟩ fun l hl => ?_
    have := hob.1 l hl
    exact ⟨by omega, fun v hv => by rw [hob.2]; have := this.2 v hv; omega⟩
  · show (((objsG g (nG g) (slG g).toNat (nG g).toNat 10).length : Nat) : Int) ≤ nG g + g 9 % 4 ∧ nG g + g 9 % 4 ≤ 64
    rw [hob.2]; omega
  · show underF (addF 0 (g (rootI g) % (nG g + 1))) (firstF (((objsG g (nG g) (slG g).toNat (nG g).toNat 10).length : Nat) : Int)) = true
    rw [hob.2, under_hasRc (add_lt (by decide) _) (first_lt _)]
    intro x hx
    rw [has_first, decide_eq_true_eq]
    have h64 := has_rng hx
    have h1 : x = g (rootI g) % (nG g + 1) := by
      have := has_bit (addF 0 (g (rootI g) % (nG g + 1))) (x - 1).toNat (by omega)
      rw [show (((x - 1).toNat : Nat) : Int) + 1 = x by omega, hx, testBit_add] at this
      simp at this
      omega
    omega
  · show ((((musG g).map (·.1)).length : Nat) : Int) = g 1 % 3 ∧ ((((musG g).map (·.2)).length : Nat) : Int) = g 1 % 3
    rw [List.length_map, List.length_map]
    unfold musG
    rw [hm.2]; omega
  · show ∀ x ∈ ((musG g).map (·.1)).zip ((musG g).map (·.2)), mutF (objsG g (nG g) (slG g).toNat (nG g).toNat 10).length (slG g) x = true
    rw [zip_maps, hob.2]
    exact hm.1
theorem made_small (g : Nat → Int) : (madeG g).wk < 16 ∧ (madeG g).ob.length < 64 ∧ (madeG g).ro < 18446744073709551616 := by
  have h0 := mG g 0 3 (by decide)
  have h8 := mG g 8 6 (by decide)
  refine ⟨?_, ?_, add_lt (by decide) _⟩
  · show 1 + g 0 % 3 < 16; omega
  · show (objsG g (nG g) (slG g).toNat (nG g).toNat 10).length < 64
    have hn : 1 ≤ nG g ∧ nG g ≤ 6 := by unfold nG; omega
    rw [(objsG_ok g (by omega) _ _ _).2]; omega
end Go.Proofs.YtdmbcjckgfjcaaaGreatDoor
