import Derived.Test.YtdmbcjckgfjcaaaGreatDoorRap
import Derived.Test.YtdmbcjckgfjcaaaGreatDoorRae
/- Layer state: what the chapter asks, as plain functions, and what follows. No program in this text. -/
namespace Go.Proofs.YtdmbcjckgfjcaaaGreatDoor
deriving instance DecidableEq for Mc
deriving instance DecidableEq for Cm
deriving instance DecidableEq for Lg
/-- what turns an object grey -/
structure Gq where
  pc : Int
  mode : Int
  obj : Int
  who : Int
  d : Mc
  c : Cm
  bin : Int
  out : Int
deriving DecidableEq
structure Wq where
  pc : Int
  obj : Int
  slot : Int
  victim : Int
  bin : Int
  batch : List Int
  d : Mc
  c : Cm
  g : Gq
deriving DecidableEq
structure Uq where
  pc : Int
  ip : Int
  ret : Int
  want : Int
  old : Int
  obj : Int
  slot : Int
  bin : Int
  regs : List Int
  buf : List Int
  batch : List Int
  c : Cm
  g : Gq
deriving DecidableEq
structure Sq where
  p : Pq
  sl : Int
  ob : Rws
  m : List Int
  bins : Rws
  marks : Nat
  black : Nat
  work : Int
  epoch : Int
  flag : Bool
  done : Bool
  restarts : Int
  acks : List Int
  l : Lg
  ws : List Wq
  ms : List Uq
  dpc : Int
  di : Int
deriving DecidableEq
def zeroMc : Mc := ⟨0, 0, 0, 0, 0, 0, 0, 0⟩
def zeroCm : Cm := ⟨0, 0, 0, 0, 0, 0, 0, 0⟩
def zeroG : Gq := ⟨0, 0, 0, 0, zeroMc, zeroCm, 0, 0⟩
def zeroS : Sq := ⟨zeroQ, 0, [], [], [], 0, 0, 0, 0, false, false, 0, [], ⟨0, 0, 0, []⟩, [], [], 0, 0⟩
def dequeF (cap w : Int) : Int := s64 (s64 (w - 1) * s64 (cap + 2))
def fullF (cap wk : Int) : Int := dequeF cap (s64 (wk + 1))
def emptyF (cap wk : Int) : Int := s64 (fullF cap wk + 1)
/-- a worker at the start -/
def workerF (p : Pq) (w : Nat) : Wq := ⟨0, 0, 0, ((w + 1 : Nat) : Int), 0, [], startF 2 ((topM w p.cp.toNat : Nat) : Int) p.cp 0, zeroCm, zeroG⟩
def mutatorF (r : List Int) : Uq := ⟨0, 0, 0, 0, 0, 0, 0, 0, r, [], [], zeroCm, zeroG⟩
/-- what is grey, rising; how many bins hold something; the bins -/
def greyL (p : Pq) : List Int := objs (pGreys p)
def binsC (p : Pq) : Nat := (pBins p).toNat
def fullC (p : Pq) : Nat := fullN p.bn.toNat (greyL p).length
def sNew (p : Pq) : Sq := if pRight p = true then
    ⟨p, p.sl, p.ob, newM p.wk.toNat p.cp.toNat (binsC p) (binsN 0 (fullC p)) (binsN (fullC p) (binsC p - fullC p)), [] :: chunk p.bn.toNat (binsC p) (greyL p), pGreys p, 0, cntF (pGreys p), 0, false, false, 0,
      List.replicate p.mu.toNat 0, lNew p.mu, (List.range p.wk.toNat).map (workerF p), p.rg.map mutatorF, 0, 0⟩ else zeroS
theorem new_right {p : Pq} (h : pRight p = true) : sNew p = ⟨p, p.sl, p.ob, newM p.wk.toNat p.cp.toNat (binsC p) (binsN 0 (fullC p)) (binsN (fullC p) (binsC p - fullC p)), [] :: chunk p.bn.toNat (binsC p) (greyL p), pGreys p, 0, cntF (pGreys p), 0, false, false, 0,
      List.replicate p.mu.toNat 0, lNew p.mu, (List.range p.wk.toNat).map (workerF p), p.rg.map mutatorF, 0, 0⟩ := if_pos h
theorem new_none {p : Pq} (h : pRight p = false) : sNew p = zeroS := by unfold sNew; rw [if_neg (by rw [h]; exact Bool.noConfusion)]
section
variable {p : Pq} (h : PRt p)
include h
theorem bins_rng : 1 ≤ binsC p ∧ binsC p ≤ 96 ∧ (binsC p : Int) = pBins p := by
  have h1 := h.rng; have h2 := h.most
  unfold pRng at h1
  unfold binsC pBins; omega
theorem grey_few (hs : p.ro < 18446744073709551616) : (greyL p).length < binsC p := by
  have h1 := cnt_grey h hs
  have h2 := (bins_rng h).2.2
  have h3 : (greyL p).length = cntF (pGreys p) := rfl
  omega
theorem bin_pos : 0 < p.bn.toNat ∧ p.bn.toNat ≤ 8 ∧ (p.bn.toNat : Int) = p.bn := by
  have h1 := h.rng
  unfold pRng at h1; omega
theorem full_few (hs : p.ro < 18446744073709551616) : fullC p ≤ binsC p := full_le (bin_pos h).1 (Nat.le_of_lt (grey_few h hs))
theorem cells_new (hs : p.ro < 18446744073709551616) : NewM p.wk.toNat p.cp.toNat (binsC p) (binsN 0 (fullC p)) (binsN (fullC p) (binsC p - fullC p)) := by
  have h1 := h.rng
  unfold pRng at h1
  exact bins_new (by omega) (by omega) (by omega) (by have := bins_rng h; omega) (full_few h hs)
/-- the addresses of a right plan: as they stand -/
theorem deque_at {w : Nat} (hw : w ≤ p.wk.toNat) : dequeF p.cp ((w + 1 : Nat) : Int) = ((topM w p.cp.toNat : Nat) : Int) := by
  have h1 := h.rng
  unfold pRng at h1
  have e1 : s64 (((w + 1 : Nat) : Int) - 1) = (w : Int) := by rw [s64_small (by omega) (by omega)]; omega
  have e2 : s64 (p.cp + 2) = ((p.cp.toNat + 2 : Nat) : Int) := by rw [s64_small (by omega) (by omega)]; omega
  unfold dequeF topM
  rw [e1, e2]
  have h3 : w * (p.cp.toNat + 2) ≤ 16 * 18 := Nat.mul_le_mul (by omega) (by omega)
  rw [← Int.natCast_mul, s64_small (by omega) (by omega)]
theorem full_at : fullF p.cp p.wk = ((topM p.wk.toNat p.cp.toNat : Nat) : Int) := by
  have h1 := h.rng
  unfold pRng at h1
  have e : s64 (p.wk + 1) = ((p.wk.toNat + 1 : Nat) : Int) := by rw [s64_small (by omega) (by omega)]; omega
  unfold fullF
  rw [e]
  exact deque_at h (Nat.le_refl _)
theorem empty_at : emptyF p.cp p.wk = ((topM p.wk.toNat p.cp.toNat + 1 : Nat) : Int) := by
  have h1 := h.rng
  unfold pRng at h1
  have h3 : p.wk.toNat * (p.cp.toNat + 2) ≤ 16 * 18 := Nat.mul_le_mul (by omega) (by omega)
  unfold emptyF
  rw [full_at h]
  unfold topM
  rw [s64_small (by omega) (by omega)]; omega
/-- the full bins hold what is grey, rising -/
theorem held_grey (hs : p.ro < 18446744073709551616) : ((chunk p.bn.toNat (binsC p) (greyL p)).take (fullC p)).flatten = greyL p := by
  have hk := (bin_pos h).1
  have hall := chunk_flat (k := p.bn.toNat) (binsC p) (greyL p) (by
    have h1 := grey_few h hs
    have h2 : 1 * binsC p ≤ p.bn.toNat * binsC p := Nat.mul_le_mul_right _ hk
    omega)
  rw [← List.take_append_drop (fullC p) (chunk p.bn.toNat (binsC p) (greyL p)), List.flatten_append] at hall
  have hz : ((chunk p.bn.toNat (binsC p) (greyL p)).drop (fullC p)).flatten = [] := by
    rw [List.flatten_eq_nil_iff]
    intro x hx
    obtain ⟨i, hi, rfl⟩ := List.mem_iff_getElem.1 hx
    rw [List.length_drop, chunk_len] at hi
    have := chunk_empty hk (n := binsC p) (g := greyL p) (i := fullC p + i) (by omega) (Nat.le_add_right _ _)
    rw [List.getElem?_eq_getElem (by rw [chunk_len]; omega)] at this
    rw [List.getElem_drop]
    exact Option.some.inj this
  rw [hz, List.append_nil] at hall
  exact hall
/-- bin b of them, b from 1 on -/
theorem bin_full (_hs : p.ro < 18446744073709551616) {b : Nat} (h1 : 1 ≤ b) (hb : b ≤ fullC p) (hn : b ≤ binsC p) : ∃ q, ([] :: chunk p.bn.toNat (binsC p) (greyL p))[b]? = some q ∧ q ≠ [] ∧ (q.length : Int) ≤ p.bn := by
  obtain ⟨j, rfl⟩ : ∃ j, b = j + 1 := ⟨b - 1, by omega⟩
  have hk := bin_pos h
  obtain ⟨q, e1, e2, e3⟩ := chunk_full hk.1 (n := binsC p) (g := greyL p) (i := j) (by omega) (show j < fullN p.bn.toNat (greyL p).length from (show j < fullC p by omega))
  exact ⟨q, by rw [List.getElem?_cons_succ]; exact e1, e2, by omega⟩
theorem bin_empty (_hs : p.ro < 18446744073709551616) {b : Nat} (h1 : fullC p < b) (hb : b ≤ binsC p) : ([] :: chunk p.bn.toNat (binsC p) (greyL p))[b]? = some [] := by
  obtain ⟨j, rfl⟩ : ∃ j, b = j + 1 := ⟨b - 1, by omega⟩
  rw [List.getElem?_cons_succ]
  exact chunk_empty (bin_pos h).1 (by omega) (show fullN p.bn.toNat (greyL p).length ≤ j from (show fullC p ≤ j by omega))
end
/-- all the bins, each once -/
theorem bins_all {f n : Nat} (hf : f ≤ n) : binsN 0 f ++ binsN f (n - f) = List.range' 1 n := by
  unfold binsN
  have := List.range'_append (s := 1) (m := f) (n := n - f) (step := 1)
  rw [Nat.add_comm f 1, Nat.zero_add]
  rw [Nat.one_mul] at this
  rw [this]
  congr 1; omega
theorem first_of {n : Nat} (hn : n ≤ 64) : onceB ((List.range' 1 n).map fun (x : Nat) => (x : Int)) = true ∧ onceV ((List.range' 1 n).map fun (x : Nat) => (x : Int)) = firstF n := by
  have h1 : onceB ((List.range' 1 n).map fun (x : Nat) => (x : Int)) = true := by
    refine decide_eq_true ⟨fun o ho => ?_, ?_⟩
    · obtain ⟨x, hx, rfl⟩ := List.mem_map.1 ho
      rw [List.mem_range'_1] at hx; omega
    · exact List.pairwise_map.2 ((List.nodup_range' (s := 1) (n := n) (step := 1)).imp fun h e => h (by omega))
  refine ⟨h1, ?_⟩
  unfold onceV
  rw [if_pos h1]
  refine set_ext (ofF_lt _) (first_lt _) fun i hi => ?_
  rw [ofF_bit _ _ hi, first_bit, decide_eq_decide]
  constructor
  · intro hm
    obtain ⟨x, hx, e⟩ := List.mem_map.1 hm
    rw [List.mem_range'_1] at hx; omega
  · rintro ⟨h2, h3⟩
    exact List.mem_map.2 ⟨i + 1, by rw [List.mem_range'_1]; omega, by omega⟩
/-- so also in any order -/
theorem once_bins {f n : Nat} (hf : f ≤ n) (hn : n ≤ 64) {b : List Int} (hp : b.Perm ((binsN 0 f).map (fun (x : Nat) => (x : Int)) ++ (binsN f (n - f)).map fun (x : Nat) => (x : Int))) : onceB b = true ∧ onceV b = firstF n := by
  rw [← List.map_append, bins_all hf] at hp
  rw [(once_perm hp).1, (once_perm hp).2]
  exact first_of hn
theorem once_grey {p : Pq} (hs : p.ro < 18446744073709551616) : onceB (greyL p) = true ∧ onceV (greyL p) = pGreys p := once_objs (grey_lt hs)
end Go.Proofs.YtdmbcjckgfjcaaaGreatDoor
/- Layer state: a field turned, as the laws turn it; what two turns have in common. No program in this text. -/
namespace Go.Proofs.YtdmbcjckgfjcaaaGreatDoor
/-- are two states the same? -/
def sSame (a b : Sq) : Bool := decide (a = b)
end Go.Proofs.YtdmbcjckgfjcaaaGreatDoor
/- Layer state: what StateNew asks of a new state, plainly. No program in this text. -/
namespace Go.Proofs.YtdmbcjckgfjcaaaGreatDoor
def fuL (p : Pq) : List Int := (binsN 0 (fullC p)).map fun (x : Nat) => (x : Int)
def emL (p : Pq) : List Int := (binsN (fullC p) (binsC p - fullC p)).map fun (x : Nat) => (x : Int)
theorem fu_len (p : Pq) : (fuL p).length = fullC p := by unfold fuL binsN; rw [List.length_map, List.length_range']
theorem em_len (p : Pq) : (emL p).length = binsC p - fullC p := by unfold emL binsN; rw [List.length_map, List.length_range']
theorem fu_at {p : Pq} {i : Nat} (h : i < fullC p) : (fuL p)[i]? = some ((i : Int) + 1) := by
  unfold fuL binsN
  rw [List.getElem?_map, List.getElem?_range' h]
  simp; omega
theorem em_at {p : Pq} {i : Nat} (h : i < binsC p - fullC p) : (emL p)[i]? = some (((fullC p + i : Nat) : Int) + 1) := by
  unfold emL binsN
  rw [List.getElem?_map, List.getElem?_range' h]
  simp; omega
section
variable {p : Pq} (h : PRt p) (hs : p.ro < 18446744073709551616)
include h hs
omit h hs in
theorem take_all' {f n : Nat} (hn : n ≤ 100) : (binsN f n).take 100 = binsN f n := List.take_of_length_le (by unfold binsN; rw [List.length_range']; omega)
theorem new_len : (sNew p).m.length = topM p.wk.toNat p.cp.toNat + 2 + binsC p := by
  rw [new_right (pRight_iff.2 h)]; exact (newM_all (cells_new h hs)).1
theorem new_fu : listFCh (sNew p).m ((topM p.wk.toNat p.cp.toNat : Nat) : Int) (((topM p.wk.toNat p.cp.toNat : Nat) : Int) + 1) 100 = fuL p := by
  have hb := bins_rng h; have hf := full_few h hs
  have := (newM_all (cells_new h hs)).2.1
  rw [take_all' (by omega)] at this
  rw [new_right (pRight_iff.2 h)]
  exact this
theorem new_em : listFCh (sNew p).m (((topM p.wk.toNat p.cp.toNat : Nat) : Int) + 1) (((topM p.wk.toNat p.cp.toNat : Nat) : Int) + 1) 100 = emL p := by
  have hb := bins_rng h
  have := (newM_all (cells_new h hs)).2.2.1
  rw [take_all' (by omega)] at this
  rw [new_right (pRight_iff.2 h)]
  exact this
theorem new_dq {w : Nat} (hw : w < p.wk.toNat) : itemsF (sNew p).m ((topM w p.cp.toNat : Nat) : Int) p.cp ⟨0, 0, 0, 0, 0, 0, 0, 0⟩ = [] := by
  have h1 := h.rng
  unfold pRng at h1
  rw [new_right (pRight_iff.2 h)]
  have := newM_deque (cells_new h hs) hw (o := ⟨0, 0, 0, 0, 0, 0, 0, 0⟩) (by decide)
  rw [show ((p.cp.toNat : Nat) : Int) = p.cp by omega] at this
  exact this
omit hs in
theorem new_blen : (sNew p).bins.length = binsC p + 1 := by
  rw [new_right (pRight_iff.2 h)]
  show ([] :: chunk _ _ _).length = _
  rw [List.length_cons, chunk_len]
theorem new_full {i : Nat} (hi : i < fullC p) : ∃ L, (sNew p).bins[i + 1]? = some L ∧ 0 < L.length ∧ (L.length : Int) ≤ p.bn := by
  have hf := full_few h hs
  rw [new_right (pRight_iff.2 h)]
  obtain ⟨q, e1, e2, e3⟩ := bin_full h hs (b := i + 1) (by omega) (by omega) (by omega)
  exact ⟨q, e1, List.length_pos_iff.2 e2, e3⟩
theorem new_empty {i : Nat} (hi : i < binsC p - fullC p) : (sNew p).bins[fullC p + i + 1]? = some [] := by
  rw [new_right (pRight_iff.2 h)]
  exact bin_empty h hs (b := fullC p + i + 1) (by omega) (by omega)
/-- what was gathered of the first i full bins -/
theorem new_held : (((sNew p).bins.drop 1).take (fullC p)).flatten = greyL p := by
  rw [new_right (pRight_iff.2 h)]
  show (((([] : List Int) :: chunk p.bn.toNat (binsC p) (greyL p)).drop 1).take (fullC p)).flatten = _
  rw [List.drop_one, List.tail_cons]
  exact held_grey h hs
omit hs in
theorem new_work : (sNew p).work = ((cntF (pGreys p) : Nat) : Int) ∧ (sNew p).marks = pGreys p ∧ (sNew p).black = 0 := by
  rw [new_right (pRight_iff.2 h)]; exact ⟨rfl, rfl, rfl⟩
end
theorem held_snoc {B : Rws} {i : Nat} {L : List Int} (h : B[i + 1]? = some L) : ((B.drop 1).take (i + 1)).flatten = ((B.drop 1).take i).flatten ++ L := by
  have h1 : (B.drop 1)[i]? = some L := by rw [List.getElem?_drop, Nat.add_comm]; exact h
  obtain ⟨hi, e⟩ := List.getElem?_eq_some_iff.1 h1
  rw [List.take_succ_eq_append_getElem hi, List.flatten_append, e]
  simp
theorem grey_small {p : Pq} : ∀ x ∈ greyL p, 1 ≤ x ∧ x ≤ 64 := fun x hx => by
  have := objs_rng (show x ∈ objs (pGreys p) from hx)
  omega
theorem store_u {m : List Int} {a v : Int} (h : AllU m) (hv : U v) : AllU (storeF m a v) := by
  intro x hx
  unfold storeF mF at hx
  simp at hx
  split at hx
  · rcases List.mem_or_eq_of_mem_set hx with h1 | rfl
    · exact h x h1
    · exact hv
  · exact h x hx
theorem w64_u (x : Int) : U (w64 x) := by unfold w64 U; omega
theorem pack_u (n : Int) : U (packF 0 n) := by unfold packF U; omega
theorem layCells_u {next : Int} : ∀ (l : List Int) (m : List Int), AllU m → AllU (layCells m next l)
  | [], _, h => h
  | [x], _, h => store_u h (by unfold U; omega)
  | x :: y :: l, m, h => layCells_u (y :: l) _ (store_u h (w64_u y))
theorem lay_u {m : List Int} {hd next : Int} {l : List Int} (h : AllU m) : AllU (layFCh m hd next l) := store_u (layCells_u l m h) (pack_u _)
theorem cells_u (n : Int) : AllU (cellsF n) := by
  intro y hy
  unfold cellsF at hy
  simp only [List.mem_cons, List.mem_replicate] at hy
  rcases hy with rfl | rfl | ⟨-, rfl⟩ <;> unfold U <;> omega
theorem deqs_u (cap : Nat) : ∀ W, AllU (deqsF cap W)
  | 0 => fun x hx => by cases hx
  | W + 1 => fun x hx => by
    rcases List.mem_append.1 hx with h | h
    · exact deqs_u cap W x h
    · exact cells_u _ x h
theorem newM_u (W cap nb : Nat) (fu em : List Nat) : AllU (newM W cap nb fu em) := by
  unfold newM
  refine lay_u (lay_u fun x hx => ?_)
  unfold bareM at hx
  rcases List.mem_append.1 hx with h | h
  · exact deqs_u _ _ x h
  · rw [List.mem_replicate] at h
    rw [h.2]; unfold U; omega
theorem new_u {p : Pq} (h : PRt p) : AllU (sNew p).m := by
  rw [new_right (pRight_iff.2 h)]; exact newM_u _ _ _ _ _
theorem flat_take_le (x : Rws) {i f : Nat} (h : i ≤ f) : (x.take i).flatten.length ≤ (x.take f).flatten.length := by
  have e : x.take i = (x.take f).take i := by rw [List.take_take, Nat.min_eq_left h]
  have e2 := congrArg List.length (congrArg List.flatten (List.take_append_drop i (x.take f)))
  rw [List.flatten_append, List.length_append, ← e] at e2
  omega
theorem held_few {B : Rws} {g : List Int} {f i : Nat} (h : ((B.drop 1).take f).flatten = g) (hi : i < f) (hg : g.length ≤ 96) : (((B.drop 1).take i).flatten).length ≤ 4000 := by
  have := flat_take_le (B.drop 1) (Nat.le_of_lt hi)
  rw [h] at this; omega
theorem held_oneSa {B : Rws} {g L : List Int} {f i : Nat} (h : ((B.drop 1).take f).flatten = g) (hi : i < f) (hg : g.length ≤ 96) (hs : ((B.drop 1).take (i + 1)).flatten = ((B.drop 1).take i).flatten ++ L) : L.length ≤ 4000 := by
  have := flat_take_le (B.drop 1) (show i + 1 ≤ f from hi)
  rw [h, hs, List.length_append] at this; omega
end Go.Proofs.YtdmbcjckgfjcaaaGreatDoor
